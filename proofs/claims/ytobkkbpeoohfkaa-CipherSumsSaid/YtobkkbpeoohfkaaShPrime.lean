/-
  The contracts of the reference's Prime, Primes.
-/
import Derived.Test.YtobkkbpeoohfkaaRows
import Derived.Test.YtobkkbpeoohfkaaShPrimeL
namespace Go.Proofs.Ytobkkbpeoohfkaa
open Go.RowKit
theorem clear_false {n k : Nat} (h2 : 2 ≤ k) (h : n % k = 0) : ∀ m, k ≤ m → clearTo n m = false
  | 0, hm => by omega
  | m + 1, hm => by
    rw [clearTo]
    by_cases e : k = m + 1
    · subst e
      have h1 : decide (m + 1 < 2) = false := by simp; omega
      simp [h1, h]
    · rw [clear_false h2 h m (by omega)]; rfl
theorem clear_more {n k : Nat} (h : clearTo n (k - 1) = true) (hk : 2 ≤ k) (hn : ¬ n % k = 0) : clearTo n k = true := by
  obtain ⟨j, rfl⟩ : ∃ j, k = j + 1 := ⟨k - 1, by omega⟩
  rw [clearTo, show clearTo n j = true from h]
  simp [hn]
theorem prime_any (n : Nat) (w : World) (h2 : 2 ≤ n) (hn : n ≤ 100000) :
    Calls Try.prog 68 #[.int .i64 (n : Int)] w (fun e w' => e = .returned (.bool (isPrime n)) ∧ w = w') := by
  have hgt : decide (1 < (n : Int)) = true := by simp; omega
  go_enter Try.func68, Try.ntmps68
  go_wp2
  go_loop [3] (fun i => ∃ k : Nat, 2 ≤ k ∧ k ≤ n ∧ i = .int .i64 k ∧ Hid (clearTo n (k - 1) = true)) (fun i => n - (intOf i).toNat)
  case atStart => exact ⟨2, by omega, h2, rfl, by show clearTo n 1 = true; simp [clearTo]⟩
  case round =>
    obtain ⟨k, hk2, hk, rfl, HC⟩ := hrel
    by_cases hlt : k < n
    · have k1 : (1 : Int) ≤ (k : Int) := by omega
      obtain ⟨r, hr⟩ : ∃ r, r = n % k := ⟨_, rfl⟩
      have er : (n : Int) % (k : Int) = (r : Int) := by rw [hr, Int.natCast_emod]
      by_cases h0 : r = 0
      · have hb : ((r : Int) == 0) = true := by simp; omega
        have HF : Hid (isPrime n = false) := by
          show _ = _
          rw [isPrime, clear_false hk2 (by rw [← hr]; exact h0) (n - 1) (by omega)]; rfl
        clear hr
        go_wp2
        go_ret
        exact ⟨ret_bool HF.out.symm, rfl⟩
      · have hb : ((r : Int) == 0) = false := by simp; omega
        have HD : Hid (clearTo n k = true) := clear_more HC.out hk2 (by rw [← hr]; exact h0)
        clear hr
        go_wp2
        go_round
        case rel => exact ⟨k + 1, by omega, by omega, by go_num, HD.out⟩
        case measure => simp [intOf]; omega
    · obtain rfl : k = n := by omega
      have HF : Hid (isPrime k = true) := by
        show _ = _
        rw [isPrime, HC.out]; simp; omega
      go_wp2
      go_ret
      exact ⟨ret_bool HF.out.symm, rfl⟩
theorem intsElt : Elt Try.prog 88 3 (.int .i64 0) 8 := ⟨Try.underlying88, by kernel_rfl, rfl, by omega⟩
/-- The cells of a row of ints. -/
def iq (l : List Nat) : List Value := l.map fun x : Nat => Value.int .i64 (x : Int)
theorem iq_length (l : List Nat) : (iq l).length = l.length := by simp [iq]
theorem iq_append (a b : List Nat) : iq (a ++ b) = iq a ++ iq b := by simp [iq]
theorem iq_get {l : List Nat} {k : Nat} (h : k < l.length) : (iq l)[k]? = some (.int .i64 ((l.getD k 0 : Nat) : Int)) := by
  rw [iq, List.getElem?_map, List.getD_eq_getElem?_getD, List.getElem?_eq_getElem h]; rfl
theorem primes_step (k : Nat) : primesTo (k + 1) = primesTo k ++ if isPrime k = true then [k] else [] := by
  rw [primesTo, List.range_succ, List.filter_append]
  cases h : isPrime k <;> simp [h, primesTo]
theorem primes_mono {i j : Nat} (h : i ≤ j) : (primesTo i).length ≤ (primesTo j).length := by
  obtain ⟨d, rfl⟩ : ∃ d, j = i + d := ⟨j - i, by omega⟩
  clear h
  induction d with
  | zero => exact Nat.le_refl _
  | succ d ih => rw [← Nat.add_assoc, primes_step, List.length_append]; omega
theorem primes_le (k : Nat) : (primesTo k).length ≤ k := by
  have := List.length_filter_le isPrime (List.range k)
  rw [List.length_range] at this
  exact this
set_option maxHeartbeats 400000 in
theorem primes_any (m L : Nat) (w : World) (hL2 : 2 ≤ L) (hL : L ≤ 1000) (hm : (primesTo L).length = m) (hmin : (primesTo (L - 1)).length < m) :
    Calls Try.prog 60 #[.int .i64 (m : Int)] w (RetRow 3 (iq (primesTo L)) w) := by
  have HM := Lib.hid hm
  have HMIN : Hid (∀ k, k < L → (primesTo k).length < m) := fun k hk => Nat.lt_of_le_of_lt (primes_mono (show k ≤ L - 1 by omega)) hmin
  have hmL : m ≤ 1000 := by have := primes_le L; omega
  clear hm hmin
  go_enter Try.func60, Try.ntmps60
  go_wp2
  go_loopw [3, 4] (fun v i wr => ∃ (k n c : Nat) (A : Option Addr), 2 ≤ k ∧ k ≤ L ∧ i = .int .i64 k ∧ v = .slice A n c ∧ Hid (n = (primesTo k).length) ∧ Below w.heap.size w wr ∧ wr.ownsRow w.heap.size 3 1 (.slice A n c) n (iq (primesTo k))) (fun _ i _ => L - (intOf i).toNat)
  case atStart =>
    exact ⟨2, 0, 0, some ⟨w.heap.size, 0, none⟩, by omega, hL2, rfl, rfl, (by show 0 = (primesTo 2).length; decide), (Below.refl _ _).alloc (Nat.le_refl _) _, (by rw [show primesTo 2 = [] by decide]; exact World.ownsRow_lit w #[] 0 (Nat.le_refl _) (Nat.zero_le _) rfl)⟩
  case round =>
    obtain ⟨k, n, c, A, hk2, hkL, rfl, rfl, HN, hb, how⟩ := hrel
    have HB := Lib.hid hb
    have HO := Lib.hid how
    clear hb how
    have hnk : n ≤ 1000 := by rw [HN.out]; have := primes_le k; omega
    by_cases hlt : k < L
    · have hnm : n < m := by rw [HN.out]; exact HMIN.out k hlt
      by_cases hp : isPrime k = true
      · have HP := Lib.hid hp
        have hst : primesTo (k + 1) = primesTo k ++ [k] := by rw [primes_step, if_pos hp]
        have HST := Lib.hid hst
        clear hp hst
        go_wp2_with fail
        refine (prime_any k _ hk2 (by omega)).mono ?_
        rintro e w' ⟨rfl, rfl⟩
        rw [HP.out]
        go_wp2_with (at_builtin
                     refine wpList_app _ rfl (.tmp 14) (.tmp 16) _ rfl intsElt (base := w.heap.size) (v := .slice A n c) rfl (own_below HO.out ((Below.refl _ _).alloc (Nat.le_refl _) _)) rfl (Rd.lit wr 3 [.int .i64 (k : Int)]) rfl ?_ ?_ ?_ ?_
                     · intro u hu
                       obtain rfl := List.mem_singleton.1 hu
                       rfl
                     · omega
                     · simp; have := HB.out.size; omega
                     intro A1 c1 w1 ho1 hg1 _)
        go_roundw
        case rel =>
          refine ⟨k + 1, n + 1, c1, A1, by omega, by omega, by go_num, rfl, (by show n + 1 = _; rw [HST.out, List.length_append, ← HN.out]; rfl), app_below (HB.out.alloc HB.out.size _) (own_below HO.out ((Below.refl _ _).alloc (Nat.le_refl _) _)) hg1 (Nat.le_refl _) (by simp; have := HB.out.size; omega), ?_⟩
          exact own_eq ho1 rfl (by rw [HST.out, iq_append]; rfl)
        case measure => simp [intOf]; omega
      · have HP : Hid (isPrime k = false) := by show _ = _; simpa using hp
        have hst : primesTo (k + 1) = primesTo k := by rw [primes_step, if_neg hp, List.append_nil]
        have HST := Lib.hid hst
        clear hp hst
        go_wp2_with fail
        refine (prime_any k _ hk2 (by omega)).mono ?_
        rintro e w' ⟨rfl, rfl⟩
        rw [HP.out]
        go_wp2_with fail
        go_roundw
        case rel => exact ⟨k + 1, n, c, A, by omega, by omega, by go_num, rfl, (by show n = _; rw [HST.out]; exact HN.out), HB.out, by rw [HST.out]; exact HO.out⟩
        case measure => simp [intOf]; omega
    · obtain rfl : k = L := by omega
      have hnm : n = m := by rw [HN.out, HM.out]
      subst hnm
      go_wp2
      go_ret
      exact RetRow.mk rfl HO.out HB.out
theorem primes_eight (w : World) : Calls Try.prog 60 #[.int .i64 8] w (RetRow 3 (iq (primesTo 20)) w) := primes_any 8 20 w (by omega) (by omega) (by rw [primes20]; rfl) (by decide +kernel)
theorem primes_many (w : World) : Calls Try.prog 60 #[.int .i64 64] w (RetRow 3 (iq (primesTo 312)) w) := primes_any 64 312 w (by omega) (by omega) (by rw [primes64]; rfl) (by decide +kernel)
end Go.Proofs.Ytobkkbpeoohfkaa
