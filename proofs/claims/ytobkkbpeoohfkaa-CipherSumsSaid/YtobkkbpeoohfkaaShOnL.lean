/-
  A sum's bytes read back into its words; the blocks of a text that goes on; no walk.
-/
import Derived.Test.YtobkkbpeoohfkaaShHashL
import Derived.Test.YtobkkbpeoohfkaaShPadL
import Derived.Test.YtobkkbpeoohfkaaShTold
import Derived.Test.YtobkkbpeoohfkaaShSpread
namespace Go.Proofs.Ytobkkbpeoohfkaa
open Go.RowKit
/-- A word, and a byte behind it. -/
def onB (x : UInt32) (b : UInt8) : UInt32 := (x <<< UInt32.ofNat 8) ||| UInt32.ofNat b.toNat
theorem onB_nat (x : UInt32) (b : UInt8) : (onB x b).toNat = x.toNat % 16777216 * 256 + b.toNat := by
  have hb := b.toNat_lt
  have hx := x.toNat_lt
  have e1 : (x <<< UInt32.ofNat 8).toNat = (x.toNat % 16777216) <<< 8 := by
    rw [UInt32.toNat_shiftLeft, Nat.shiftLeft_eq, Nat.shiftLeft_eq, ofNat_small (by omega)]
    omega
  have e2 : (UInt32.ofNat b.toNat).toNat = b.toNat := by
    rw [UInt32.toNat_ofNat']; omega
  rw [onB, UInt32.toNat_or, e1, e2, ← Nat.shiftLeft_add_eq_or_of_lt (by simpa using hb), Nat.shiftLeft_eq]
theorem onB_val (x : UInt32) (b : UInt8) : bits BinOp.or IntKind.u32 ((x.toNat : Int) * 256 % 4294967296) (b.toNat : Int) = ((onB x b).toNat : Int) := by
  rw [show (256 : Int) = 2 ^ 8 from rfl, w_shl x (by omega), w_byte b, w_or]; rfl
theorem byteB_nat (x : UInt32) (j : Nat) : (byteB x j).toNat = x.toNat / 2 ^ (8 * (3 - j)) % 256 := by
  rw [byteB, UInt8.toNat_ofNat']
theorem on4 (x : UInt32) : onB (onB (onB (onB 0 (byteB x 0)) (byteB x 1)) (byteB x 2)) (byteB x 3) = x := by
  apply UInt32.toNat_inj.1
  have hx := x.toNat_lt
  rw [onB_nat, onB_nat, onB_nat, onB_nat, byteB_nat, byteB_nat, byteB_nat, byteB_nat]
  simp
  omega
/-- The words, as far as n bytes are read into them. -/
def rdTo (f : Nat → UInt8) : Nat → List UInt32
  | 0 => List.replicate 8 0
  | n + 1 => (rdTo f n).set (n / 4) (onB ((rdTo f n).getD (n / 4) 0) (f n))
theorem rdTo_length (f : Nat → UInt8) : ∀ n, (rdTo f n).length = 8
  | 0 => rfl
  | n + 1 => by rw [rdTo, List.length_set, rdTo_length f n]
theorem rdTo_word (s : List UInt32) (f : Nat → UInt8) (hf : ∀ i, f i = byteB (s.getD (i / 4) 0) (i % 4)) (hs : s.length = 8) : ∀ k, k ≤ 8 → rdTo f (4 * k) = s.take k ++ List.replicate (8 - k) 0
  | 0, _ => rfl
  | k + 1, h => by
    have e : 4 * (k + 1) = 4 * k + 1 + 1 + 1 + 1 := by omega
    have ih := rdTo_word s f hf hs k (by omega)
    rw [e, rdTo, rdTo, rdTo, rdTo, ih, show (4 * k + 1 + 1 + 1) / 4 = k by omega, show (4 * k + 1 + 1) / 4 = k by omega, show (4 * k + 1) / 4 = k by omega, show 4 * k / 4 = k by omega,
      hf, hf, hf, hf, show (4 * k + 1 + 1 + 1) / 4 = k by omega, show (4 * k + 1 + 1) / 4 = k by omega, show (4 * k + 1) / 4 = k by omega, show 4 * k / 4 = k by omega,
      show (4 * k + 1 + 1 + 1) % 4 = 3 by omega, show (4 * k + 1 + 1) % 4 = 2 by omega, show (4 * k + 1) % 4 = 1 by omega, show 4 * k % 4 = 0 by omega]
    have hl : (s.take k ++ List.replicate (8 - k) (0 : UInt32)).length = 8 := by simp; omega
    have h0 : (s.take k ++ List.replicate (8 - k) (0 : UInt32)).getD k 0 = 0 := by
      rw [List.getD_eq_getElem?_getD, List.getElem?_append_right (by simp; omega), show (s.take k).length = k by simp; omega, Nat.sub_self, List.getElem?_replicate, if_pos (by omega)]; rfl
    rw [h0]
    generalize hu : s.take k ++ List.replicate (8 - k) (0 : UInt32) = u at hl
    have g1 : ∀ (v : List UInt32) (y : UInt32), v.length = 8 → (v.set k y).getD k 0 = y := by
      intro v y hv
      rw [List.getD_eq_getElem?_getD, List.getElem?_set_self (by omega)]; rfl
    simp only [List.set_set, g1 _ _ hl, on4]
    rw [← hu, List.set_append_right _ _ (by simp; omega)]
    have hk : (s.take k).length = k := by simp; omega
    rw [hk, Nat.sub_self, show 8 - k = (8 - (k + 1)) + 1 by omega, List.replicate_succ, List.set_cons_zero]
    have : s.take (k + 1) = s.take k ++ [s.getD k 0] := by
      rw [List.take_add_one, List.getD_eq_getElem?_getD, List.getElem?_eq_getElem (by omega)]; rfl
    rw [this, List.append_assoc]; rfl
theorem rdTo_all (s : List UInt32) (hs : s.length = 8) : rdTo (fun i => (toldB s).getD i 0) 32 = s := by
  have h : ∀ n, n ≤ 32 → rdTo (fun i => (toldB s).getD i 0) n = rdTo (fun i => byteB (s.getD (i / 4) 0) (i % 4)) n := by
    intro n
    induction n with
    | zero => intro _; rfl
    | succ n ih =>
      intro h
      rw [rdTo, rdTo, ih (by omega)]
      have : (toldB s).getD n 0 = byteB (s.getD (n / 4) 0) (n % 4) := by
        rw [toldB, List.getD_eq_getElem?_getD, List.getElem?_map, List.getElem?_range (by omega)]; rfl
      rw [this]
  rw [h 32 (Nat.le_refl _)]
  have := rdTo_word s _ (fun _ => rfl) hs 8 (Nat.le_refl _)
  rw [show 4 * 8 = 32 from rfl] at this
  rw [this, List.take_of_length_le (by omega)]; simp
/-- Of a text that goes on with another the padded text begins with it. -/
theorem padL_front (P l : List UInt8) : ∃ X, padL (P ++ l) = P ++ X := ⟨_, by rw [padL, padP, List.append_assoc]⟩
theorem overTo_on (P l : List UInt8) (kp : Nat) (h : P.length = 64 * kp) : overTo firstL (padL (P ++ l)) kp = overL firstL P := by
  obtain ⟨X, e⟩ := padL_front P l
  rw [e, overTo_front firstL P X kp (by omega), overL, h]
  simp
end Go.Proofs.Ytobkkbpeoohfkaa
