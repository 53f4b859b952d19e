/-
  CellRows holds: of any row of cells the law returns true, and its argument reads as it did.
-/
import Derived.Test.YtjcmmeppadhjiaaCa4
import Derived.Deep.Cut
import Derived.Deep.RegionHeld
import Derived.Test.YtjcmmeppadhjiaaRows
import Derived.ProofKit
import Derived.OpenShut
import Derived.ShutString
import Derived.ChangeOld
namespace Go.Proofs.Ytjcmmeppadhjiaa.Ce
open Go.RowKit
/-- A cell and where its body lies. -/
structure Cc where
  y : Cl
  A : Option Addr
  c : Nat
def ccV (k : Cc) : List Value := (clA k.y k.A k.c).toList
def ccs : List Cc → List Value
  | [] => []
  | k :: l => ccV k ++ ccs l
theorem ccs_append (a b : List Cc) : ccs (a ++ b) = ccs a ++ ccs b := by
  induction a with
  | nil => rfl
  | cons x l ih => simp [ccs, ih]
theorem ccV_length (k : Cc) : (ccV k).length = 11 := rfl
theorem ccs_length (l : List Cc) : (ccs l).length = l.length * 11 := by
  induction l with
  | nil => rfl
  | cons x l ih => rw [ccs, List.length_append, ccV_length, ih, List.length_cons]; omega
theorem ccs_get {l : List Cc} {k : Nat} (hk : k < l.length) {j : Nat} {v : Value} (hv : (ccV l[k])[j]? = some v) : (ccs l)[11 * k + j]? = some v := by
  induction l generalizing k with
  | nil => simp at hk
  | cons x l ih =>
    cases k with
    | zero =>
      have hj : j < 11 := (List.getElem?_eq_some_iff.1 hv).1
      rw [ccs, Nat.mul_zero, Nat.zero_add, List.getElem?_append_left (by rw [ccV_length]; omega)]
      exact hv
    | succ k =>
      rw [ccs, List.getElem?_append_right (by rw [ccV_length]; omega), ccV_length, show 11 * (k + 1) + j - 11 = 11 * k + j by omega]
      exact ih (by simpa using hk) (by simpa using hv)
theorem rd_cell {B : Nat} {w : World} {A : Option Addr} {l : List Cc} (h : Rd B w A (ccs l)) {k : Nat} (hk : k < l.length) :
    ∃ ad, A = some ad ∧ ad.block < B ∧ ∀ j v, (ccV l[k])[j]? = some v → w.cell? ((ad.add (k * 11)).add j) = some v := by
  obtain ⟨ad, hA, hb, _⟩ := h _ _ (ccs_get hk (j := 0) (v := .int .i64 l[k].y.kind) rfl)
  refine ⟨ad, hA, hb, fun j v hv => ?_⟩
  obtain ⟨ad', hA', _, hc⟩ := h _ _ (ccs_get hk hv)
  rw [hA] at hA'; injection hA' with hA'
  rw [hA', add_twice, Nat.mul_comm k 11]
  exact hc
section
open Go.ChangeShapes Go.WideShapes
variable {H : Type} {enc : TypeId × Value → H} {w : World} {base : Nat} {spare : Nat → Bool} {held : Bool}
/-- A row of cells that came in. -/
theorem open_cells {a : Option Addr} {len cap : Nat} {d : DataW H} {ps : List MemPlace} (h : DataW.Trod enc Try.prog w base spare held 42 (.slice a len cap) d ps) :
    ∃ l : List Cc, l.length = len ∧ len ≤ cap ∧ cap ≤ maxLen ∧ (Rd w.heap.size w a (ccs l) ∧ ∀ k ∈ l, Rd w.heap.size w k.A (bv k.y.body)) := by
  obtain ⟨fuel, hf⟩ := h
  have hf' : DataW.trod enc Try.prog w base spare held fuel 42 [Value.slice a len cap] = some (d, ps) := hf
  have hcn : Try.prog.cellsOf 27 = 11 := by kernel_rfl
  rcases Go.Deep.open_slice Try.underlying42 hf' with ⟨hcs, _⟩ | ⟨a', len', cap', m, n, D, Pl, hcs, _, hl, hm, hmm, _, hx⟩
  · simp only [List.cons.injEq, and_true] at hcs
    injection hcs with e1 e2 e3
    subst e1; subst e2; subst e3
    exact ⟨[], rfl, Nat.le_refl _, Nat.zero_le _, Rd.none, fun y hy => by simp at hy⟩
  · simp only [List.cons.injEq, and_true] at hcs
    injection hcs with e1 e2 e3
    subst e1; subst e2; subst e3
    have hlm : len ≤ m := by rw [hmm]; split <;> omega
    rw [hcn] at hx
    have hall : ∀ j, j ≤ len → ∃ l : List Cc, l.length = j ∧ (∀ k ∈ l, Rd w.heap.size w k.A (bv k.y.body)) ∧ ∀ k u, (ccs l)[k]? = some u → w.cell? (a'.add k) = some u := by
      intro j
      induction j with
      | zero => exact fun _ => ⟨[], rfl, fun y hy => by simp at hy, fun k u hu => by simp [ccs] at hu⟩
      | succ j ih =>
        intro hj
        obtain ⟨l, hl', hb, hc⟩ := ih (by omega)
        obtain ⟨cs', h1, h2⟩ := hx j (by omega)
        obtain ⟨y, v, hy, _, A, c, rfl, g1, g2, g3⟩ := cell_of_trod h2
        obtain ⟨_, _, hcl⟩ := World.cells?_some h1
        have hnl : (ccs l).length = j * 11 := by rw [ccs_length, hl']
        refine ⟨l ++ [⟨y, A, c⟩], by simp [hl'], fun z hz => ?_, fun k u hu => ?_⟩
        · rcases List.mem_append.1 hz with hz | hz
          · exact hb z hz
          · rw [List.mem_singleton] at hz; rw [hz]; exact g3
        · rw [ccs_append] at hu
          rcases Nat.lt_or_ge k (ccs l).length with hk | hk
          · rw [List.getElem?_append_left hk] at hu
            exact hc k u hu
          · rw [List.getElem?_append_right hk, ccs, ccs, List.append_nil, show ccV ⟨y, A, c⟩ = cs' from hy.symm, hnl] at hu
            have hk5 : k - j * 11 < 11 := by
              have := (List.getElem?_eq_some_iff.1 hu).1
              rw [hy, clV_length] at this; exact this
            have h3 := hcl (k - j * 11) hk5
            rw [add_twice, show j * 11 + (k - j * 11) = k by omega, hu] at h3
            exact h3
    obtain ⟨l, h1, h2, h3⟩ := hall len (Nat.le_refl _)
    refine ⟨l, h1, hl, hm, fun k u hu => ⟨a', rfl, ?_, h3 k u hu⟩, h2⟩
    have := World.block_lt_of_cell? _ _ (h3 k u hu)
    rw [add_block] at this
    exact this
end
end Go.Proofs.Ytjcmmeppadhjiaa.Ce
namespace Go.Proofs.Ytjcmmeppadhjiaa
open Go.RowKit Ce Go.ChangeShapes Go.WideShapes Go.ChangeAt
attribute [local go_sem ↓] Go.wp_at_zero Go.wp_at_succ
theorem own_capsR {w : World} {base n c : Nat} {A : Option Addr} {xs : List Value} (h : w.ownsRow base 5 1 (.slice A n c) n xs) : n ≤ c ∧ c ≤ maxLen := by
  rcases h.2 with ⟨hv, h0⟩ | ⟨g, cap, cur, hv, _, _, h1, h2, _⟩
  · injection hv with _ _ h3; subst h3; subst h0; exact ⟨Nat.le_refl _, Nat.zero_le _⟩
  · injection hv with _ _ h3; subst h3; exact ⟨h1, h2⟩
/-- The bytes of a row of cells. -/
def encs : List Cc → List UInt8
  | [] => []
  | k :: l => encCl k.y ++ encs l
theorem encs_append (a b : List Cc) : encs (a ++ b) = encs a ++ encs b := by
  induction a with
  | nil => rfl
  | cons x l ih => simp [encs, ih]
theorem okCl_b32 {x : Cl} (h : okCl x) : x.body.length ≤ 32 := by
  rcases h.2.2 with k | k | k | k | k | k | k | k
  · have := k.2.2.2.1; omega
  · have := k.2.2.2.2; omega
  · have := k.2.2.2.1.2; omega
  · have := k.2.2.2.2.2.2.2; omega
  · have := k.2.2.2.2.2.2; omega
  · have := k.2.2.2.2.2.2.2; omega
  · have := k.2.2.2.2; omega
  · have := k.2.2.2.2; omega
theorem encCl_len {x : Cl} (h : okCl x) : 7 ≤ (encCl x).length ∧ (encCl x).length ≤ 200 := by
  have h1 := encCl_length h
  have h4 := okCl_b32 h
  unfold headN at h1
  split at h1 <;> split at h1 <;> split at h1 <;> split at h1 <;> omega
set_option maxRecDepth 100000 in
set_option maxHeartbeats 12800000 in
theorem cellRows_any (w : World) (A : Option Addr) (N c : Nat) (l : List Cc) (hl : l.length = N) (_ : N ≤ c) (_ : c ≤ maxLen) (hr : Rd w.heap.size w A (ccs l) ∧ ∀ k ∈ l, Rd w.heap.size w k.A (bv k.y.body)) : Calls Try.prog 7 #[.slice A N c] w (RetB (.bool true) w) := by
  obtain ⟨zc, hzc⟩ : ∃ z, z = clA zeroCl none 0 := ⟨_, rfl⟩
  have hzv : ∀ W, (zeroValue 27).run Try.prog W = .ok (.agg zc) W := fun _ => by rw [hzc]; kernel_rfl
  have HZC := Lib.hid hzc
  have HL := Lib.hid hl
  have HR := Lib.hid hr.1
  have HBO := Lib.hid hr.2
  have B := Lib.hid (Below.refl w.heap.size w)
  clear hzc hl hr
  go_enter Try.func7, Try.ntmps7
  go_wp2_with fail
  refine (ceAwake_any _).mono ?_
  rintro e w1 ⟨rfl, bw⟩
  have B' := Lib.hid (B.out.trans (bw.mono B.out.size))
  clear bw B 
  have B := Lib.hid B'.out
  clear B' 
  by_cases hbig : 20 < N
  · have n1 : (20 : Int) < (N : Int) := by omega
    go_wp2_with fail
    go_ret
    exact ⟨rfl, B.out⟩
  have n1 : ¬ (20 : Int) < (N : Int) := by omega
  have HNB := Lib.hid (show N ≤ 20 by omega)
  clear hbig
  go_wp2_with fail
  clear n1
  go_loopw [3, 4, 5, 6, 7] (fun o t i _ _ wr => ∃ (j m : Nat) (A3 : Option Addr) (c3 : Nat), j ≤ N ∧ m ≤ 200 * j ∧ i = .int .i64 j ∧ t = .int .i64 m ∧ o = .slice A3 m c3 ∧ Below w.heap.size w wr ∧ wr.ownsRow w.heap.size 5 1 (.slice A3 m c3) m (bv (encs (l.take j))) ∧ Hid (∀ k ∈ l.take j, okCl k.y)) (fun _ _ i _ _ _ => N - (intOf i).toNat)
  case atStart => exact ⟨0, 0, none, 0, Nat.zero_le _, Nat.zero_le _, rfl, rfl, rfl, B.out, World.ownsRow_nil _ _ _ _, Lib.hid (fun k hk => by simp at hk)⟩
  case round =>
    clear B
    obtain ⟨j, m, A3, c3, hj, hm2, rfl, rfl, rfl, hbw, how, HALL⟩ := hrel
    by_cases hlt : j < N
    · have hkl : j < l.length := by rw [HL.out]; exact hlt
      obtain ⟨x, hxe⟩ : ∃ x, x = l[j] := ⟨_, rfl⟩
      have hxm : x ∈ l := by rw [hxe]; exact List.getElem_mem hkl
      have hbx := HBO.out x hxm
      have hrd := HR.out
      obtain ⟨ad, hA, _, _⟩ := rd_cell hrd hkl
      subst hA
      have hcell : ∀ w', Below w.heap.size w w' → ∀ i v, (ccV x)[i]? = some v → w'.cell? ((ad.add (j * 11)).add i) = some v := fun w' hb' i v hv => by
        obtain ⟨ad', hA', _, hc⟩ := rd_cell (hrd.below hb') hkl
        injection hA' with hA'
        subst hA'
        exact hc i v (by rw [← hxe]; exact hv)
      obtain ⟨csx, hcsx⟩ : ∃ cs, cs = clA x.y x.A x.c := ⟨_, rfl⟩
      have HCW := Lib.hid (show ∀ w', Below w.heap.size w w' → ∀ i v, csx.toList[i]? = some v → w'.cell? ((ad.add (j * 11)).add i) = some v from fun w' hb' i v hv => hcell w' hb' i v (by rw [hcsx] at hv; exact hv))
      have HIx := Lib.hid (show (Try.prog.info? 27).map (·.size) = some csx.toList.length from by rw [hcsx]; kernel_rfl)
      have HCX := Lib.hid hcsx
      have HBX := Lib.hid hbx
      have k0 : (0 : Int) ≤ (j : Int) := by omega
      have k1 : (j : Int) < (N : Int) := by omega
      have HB := Lib.hid hbw
      have HO := Lib.hid how
      have hn20 := HNB.out
      have HM2 := Lib.hid hm2
      have HTK := Lib.hid (show l.take (j + 1) = l.take j ++ [x] from by rw [hxe]; exact List.take_succ_eq_append_getElem hkl)
      obtain ⟨n, hn⟩ : ∃ n, n = x.y.body.length := ⟨_, rfl⟩
      have LX := Lib.hid (show ∀ w', Below w.heap.size w w' → w'.cell? ⟨(ad.add (j * 11)).block, (ad.add (j * 11)).off + 10, none⟩ = some (.slice x.A n x.c) from fun w' hb' => by rw [hn]; exact hcell w' hb' 10 _ rfl)
      have c10 := LX.out _ HB.out
      clear hxe hxm hbx hrd hcell hcsx hbw how hn hm2
      by_cases hbig : 100 < n
      · have n1 : (100 : Int) < (n : Int) := by omega
        go_wp2_with fail
        go_ret
        exact ⟨rfl, HB.out⟩
      have n1 : ¬ (100 : Int) < (n : Int) := by omega
      clear hbig
      go_wp2_with (refine wpList_load_at rfl 27 (.tmp 33) rfl (ad.add (j * 11)) rfl (HCW.out _ HB.out) Try.underlying27 rfl HIx.out ?_; change wpList _ _ _ _ (Act.put _ _ (.agg csx)) _)
      have hen := encode_any x.y x.A x.c wr (HBX.out.below HB.out) HB.out.size
      rw [← HCX.out] at hen
      refine hen.mono ?_
      rintro e w4 ⟨A4, n4, c4, rfl, ho, bw⟩
      clear hen c10 n1
      have B4 := Lib.hid (HB.out.trans (bw.mono HB.out.size))
      have O4 := Lib.hid (own_below HO.out bw)
      by_cases ok : okCl x.y
      rotate_left
      · rw [show errX x.y = 3 from if_neg ok]
        clear ok bw HO HB
        go_wp2_with fail
        go_ret
        exact ⟨rfl, B4.out⟩
      rw [show errX x.y = 0 from if_pos ok]
      rw [show encX x.y = encCl x.y from if_pos ok] at ho
      have h4 := own_blen ho
      have h5 := encCl_len ok
      rw [h4] at h5
      have R4 := Lib.hid (Rd.own ho)
      have L4 := Lib.hid h4
      have HOK := Lib.hid ok
      have hms := HM2.out
      have HSZ := Lib.hid (show ∀ W, Calls Try.prog 16 #[.agg csx] W (RetB (.int .i64 (n4 : Int)) W) from fun W => by
        have h := size_any x.y x.A x.c W
        rw [if_pos ok, ← HCX.out, h4] at h; exact h)
      have h52 := h5.2
      have ws : IntKind.i64.wrap ((m : Int) + (n4 : Int)) = ((m + n4 : Nat) : Int) := by rw [IntWalk.i64_in _ (by omega)]; omega
      clear ho bw ok h4 h5 HO HB
      go_wp2_with (first
        | (at_builtin
           refine wpList_app _ rfl (.tmp 40) (.tmp 41) _ rfl Wi.bytesElt (base := w.heap.size) (v := .slice A3 m c3) rfl O4.out (m := n4) rfl R4.out ((bv_length _).trans L4.out) (bv_one _) ?_ ?_ ?_
           · omega
           · exact B4.out.size
           intro A6 c6 w6 ho6 hg6 _
           have hb6 := app_below B4.out O4.out hg6 (Nat.le_refl _) B4.out.size
           have O6 := Lib.hid ho6
           have B6 := Lib.hid hb6
           clear ho6 hg6 hb6 O4 B4 R4)
        | (refine wpList_load_at rfl 27 (.tmp 46) rfl (ad.add (j * 11)) rfl (HCW.out _ B6.out) Try.underlying27 rfl HIx.out ?_; change wpList _ _ _ _ (Act.put _ _ (.agg csx)) _))
      refine (HSZ.out _).mono ?_
      rintro e w7 ⟨rfl, bw⟩
      have B7 := Lib.hid (B6.out.trans (bw.mono B6.out.size))
      have O7 := Lib.hid (own_below O6.out bw)
      clear bw B6 O6
      go_wp2_with fail
      go_roundw
      case rel => exact ⟨j + 1, m + n4, A6, c6, by omega, by omega, by go_num, by go_num, rfl, B7.out, own_eq O7.out rfl (by rw [HTK.out, encs_append, ← bv_append]; simp [encs]), Lib.hid (fun k hk => by
        rw [HTK.out] at hk
        rcases List.mem_append.1 hk with h | h
        · exact HALL.out k h
        · rw [List.mem_singleton] at h; rw [h]; exact HOK.out)⟩
      case measure => (simp [intOf]; try omega)
    · obtain rfl : N = j := by omega
      have htk : l.take N = l := List.take_of_length_le (by rw [HL.out]; exact Nat.le_refl _)
      rw [htk] at how HALL
      have O := Lib.hid how
      have B := Lib.hid hbw
      have HM2 := Lib.hid hm2
      obtain ⟨wo, hwo⟩ : ∃ v, v = wr := ⟨_, rfl⟩
      subst hwo
      clear htk how hbw hlt hj hm2
      go_wp2_with fail
      go_loopw [3, 8, 9, 10, 11] (fun o i _ _ _ wr => ∃ (j m : Nat) (A3 : Option Addr) (c3 : Nat), j ≤ N ∧ m ≤ 4000 ∧ i = .int .i64 j ∧ o = .slice A3 m c3 ∧ Below w.heap.size w wr ∧ wr.ownsRow w.heap.size 5 1 (.slice A3 m c3) m (bv (encs (l.drop j)))) (fun _ i _ _ _ _ => N - (intOf i).toNat)
      case atStart => exact ⟨0, m, A3, c3, Nat.zero_le _, by have h1 := HM2.out; have h2 := HNB.out; omega, rfl, rfl, B.out, O.out⟩
      case round =>
        clear B O HM2
        obtain ⟨j, m, A3, c3, hj, hm2, rfl, rfl, hbw, how⟩ := hrel
        by_cases hlt : j < N
        · have hkl : j < l.length := by rw [HL.out]; exact hlt
          obtain ⟨x, hxe⟩ : ∃ x, x = l[j] := ⟨_, rfl⟩
          have hxm : x ∈ l := by rw [hxe]; exact List.getElem_mem hkl
          have hbx := HBO.out x hxm
          have hrd := HR.out
          obtain ⟨ad, hA, _, _⟩ := rd_cell hrd hkl
          subst hA
          have hcell : ∀ w', Below w.heap.size w w' → ∀ i v, (ccV x)[i]? = some v → w'.cell? ((ad.add (j * 11)).add i) = some v := fun w' hb' i v hv => by
            obtain ⟨ad', hA', _, hc⟩ := rd_cell (hrd.below hb') hkl
            injection hA' with hA'
            subst hA'
            exact hc i v (by rw [← hxe]; exact hv)
          obtain ⟨csx, hcsx⟩ : ∃ cs, cs = clA x.y x.A x.c := ⟨_, rfl⟩
          have HCW := Lib.hid (show ∀ w', Below w.heap.size w w' → ∀ i v, csx.toList[i]? = some v → w'.cell? ((ad.add (j * 11)).add i) = some v from fun w' hb' i v hv => hcell w' hb' i v (by rw [hcsx] at hv; exact hv))
          have HIx := Lib.hid (show (Try.prog.info? 27).map (·.size) = some csx.toList.length from by rw [hcsx]; kernel_rfl)
          have HCX := Lib.hid hcsx
          have HBX := Lib.hid hbx
          have k0 : (0 : Int) ≤ (j : Int) := by omega
          have k1 : (j : Int) < (N : Int) := by omega
          have HB := Lib.hid hbw
          have HO := Lib.hid how
          have hn20 := HNB.out
          have HDR := Lib.hid (show l.drop j = x :: l.drop (j + 1) from by rw [hxe]; exact List.drop_eq_getElem_cons hkl)
          have hok := HALL.out x hxm
          have HOK := Lib.hid hok
          obtain ⟨rs, hrs⟩ : ∃ r, r = encs (l.drop (j + 1)) := ⟨_, rfl⟩
          have HRS := Lib.hid hrs
          have hdec := decode_any A3 m c3 (encs (l.drop j)) wr (own_blen HO.out) (own_capsR HO.out) (Rd.own HO.out) (Nat.le_refl _) (by omega)
          have hen : encs (l.drop j) = encCl x.y ++ rs := by rw [HDR.out, hrs]; rfl
          have hlen : (encCl x.y).length + rs.length = m := by rw [← own_blen HO.out, hen, List.length_append]
          rw [hen, dec_enc hok rs] at hdec
          simp only [if_true, List.drop_left] at hdec
          obtain ⟨m2, hm3⟩ : ∃ q, q = rs.length := ⟨_, rfl⟩
          have hlt2 : m2 < m := by have := (encCl_len hok).1; omega
          have g1 : decide ((m2 : Int) ≥ (m : Int)) = false := decide_eq_false (by omega)
          have g2 : decide (m ≤ m2) = false := decide_eq_false (by omega)
          have g3 : decide ((m : Int) ≤ (m2 : Int)) = false := decide_eq_false (by omega)
          have HM3 := Lib.hid hm3
          clear hxe hxm hbx hrd hcell hcsx hbw how hok hrs hlen hen hm3
          go_wp2_with fail
          refine hdec.mono ?_
          rintro e w4 ⟨A9, c9, A10, c10, rfl, ho, hq, bw, hne⟩
          rw [← HM3.out] at hq ⊢
          have B4 := Lib.hid (HB.out.trans (bw.mono HB.out.size))
          have R9 := Lib.hid (Rd.own ho)
          have OQ := Lib.hid (own_more hq HB.out.size)
          clear hdec ho hq hne bw HO HB
          obtain ⟨csa, hcsa⟩ : ∃ cs, cs = clA x.y A9 c9 := ⟨_, rfl⟩
          rw [← hcsa]
          have HIa := Lib.hid (show (Try.prog.info? 27).map (·.size) = some csa.size from by rw [hcsa]; kernel_rfl)
          have HOa := Lib.hid (show csa.all (·.oneCell') = true from by rw [hcsa]; simp [clA, Value.oneCell'])
          have HZa := Lib.hid (show zc.size = csa.size from by rw [HZC.out, hcsa]; rfl)
          have HCSa := Lib.hid hcsa
          clear hcsa
          go_upto_region 23 with (show wpList _ _ _ ({ dst := none, op := .store 27 (.tmp 9) (.tmp 63), type := _, pos := _, after := _, guard := _ } :: _) _ _; apply Classical.byContradiction; intro hneg)
          refine hneg ?_
          clear hneg
          refine wpList_store_row rfl 27 (.tmp 9) (.tmp 63) rfl w4.heap.size csa rfl rfl 27 zc (heap_alloc_new _ _) HIa.out HZa.out HOa.out ?_
          obtain ⟨w5, hw⟩ : ∃ v, v = (w4.alloc (.cells zc 27)).setRow w4.heap.size csa := ⟨_, rfl⟩
          obtain ⟨ga, hg⟩ : ∃ g, g = w4.heap.size := ⟨_, rfl⟩
          rw [← hw, ← hg]
          have bn : Below w4.heap.size w4 w5 := by rw [hw]; exact below_new (Below.refl _ _) (Nat.le_refl _)
          have Xa := Lib.hid (show Blk w5 ga csa 27 from by rw [hw, hg]; exact setRow_heap _ _ _ _ _ _ (heap_alloc_new _ _))
          have SB5 := Lib.hid bn.size
          have B4' := Lib.hid (B4.out.trans (bn.mono B4.out.size))
          have R9' := Lib.hid (R9.out.below (bn.mono (Nat.le_refl _)))
          have OQ' := Lib.hid (own_below OQ.out bn)
          clear bn B4 R9 OQ
          have B4 := Lib.hid B4'.out
          clear B4'
          have R9 := Lib.hid R9'.out
          clear R9'
          have OQ := Lib.hid OQ'.out
          clear OQ'
          clear hw hg
          have HSM := Lib.hid (show ∀ W, Below w5.heap.size w5 W → Calls Try.prog 22 #[.agg csa, .agg csx] W (RetB (.bool true) W) from fun W hW => by
            have hb := B4.out.trans (hW.mono B4.out.size)
            have h := same_any x.y x.y A9 x.A c9 x.c W ((R9.out.more SB5.out).below hW |>.more hW.size) ((HBX.out.below hb).more hb.size) (Nat.le_refl _)
            rw [← HCSa.out, ← HCX.out, decide_eq_true rfl] at h; exact h)
          go_upto_region 23 with fail
          refine wp_region_held_drew (S := (fun w' => Below w5.heap.size w5 w')) (by kernel_rfl) (Below.refl w5.heap.size w5).drew (fun hh => ?_)
          have HH := Lib.hid hh
          clear hh
          refine wpAnyH_take (i := 0) (v := ?vL0) rfl (by kernel_rfl) (by kernel_rfl) (by kernel_rfl) (fun _ _ _ h => h) (Or.inl ⟨by rfl, fun w' _ => ?yL0⟩) HH.out ?_
          case yL0 => (go_simp; try with_reducible rfl)
          refine wpAnyH_take (i := 1) (v := ?vL1) rfl (by kernel_rfl) (by kernel_rfl) (by kernel_rfl) (fun _ _ _ h => h) (Or.inl ⟨by rfl, fun w' _ => ?yL1⟩) HH.out ?_
          case yL1 => (go_simp; try with_reducible rfl)
          try simp only [List.getElem_toArray, List.getElem_cons_succ, List.getElem_cons_zero, Act.put, List.setIfInBounds_toArray, List.set_cons_zero, List.set_cons_succ]
          refine wpAnyH_take (i := 2) (v := ?vL2) rfl (by kernel_rfl) (by kernel_rfl) (by kernel_rfl) (fun _ _ _ h => h) (Or.inl ⟨by rfl, fun w' _ => ?yL2⟩) HH.out ?_
          case yL2 => (go_simp; try with_reducible rfl)
          try simp only [List.getElem_toArray, List.getElem_cons_succ, List.getElem_cons_zero, Act.put, List.setIfInBounds_toArray, List.set_cons_zero, List.set_cons_succ]
          refine wpAnyH_take (i := 3) (v := .agg csa) rfl (by kernel_rfl) (by kernel_rfl) (by kernel_rfl) (fun _ _ _ h => h) (Or.inl ⟨by rfl, fun w' hw' => ?yL3⟩) HH.out ?_
          case yL3 => exact exec_load 27 (.tmp 9) rfl rfl (Blk.below Xa.out hw') Try.underlying27 rfl HIa.out
          refine wpAnyH_take (i := 4) (v := ?vL4) rfl (by kernel_rfl) (by kernel_rfl) (by kernel_rfl) (fun _ _ _ h => h) (Or.inl ⟨by rfl, fun w' _ => ?yL4⟩) HH.out ?_
          case yL4 => (go_simp; try with_reducible rfl)
          try simp only [List.getElem_toArray, List.getElem_cons_succ, List.getElem_cons_zero, Act.put, List.setIfInBounds_toArray, List.set_cons_zero, List.set_cons_succ]
          refine wpAnyH_take (i := 5) (v := ?vL5) rfl (by kernel_rfl) (by kernel_rfl) (by kernel_rfl) (fun _ _ _ h => h) (Or.inl ⟨by rfl, fun w' _ => ?yL5⟩) HH.out ?_
          case yL5 => (go_simp; try with_reducible rfl)
          refine wpAnyH_take (i := 6) (v := ?vL6) rfl (by kernel_rfl) (by kernel_rfl) (by kernel_rfl) (fun _ _ _ h => h) (Or.inl ⟨by rfl, fun w' _ => ?yL6⟩) HH.out ?_
          case yL6 => (go_simp; try with_reducible rfl)
          try simp only [List.getElem_toArray, List.getElem_cons_succ, List.getElem_cons_zero, Act.put, List.setIfInBounds_toArray, List.set_cons_zero, List.set_cons_succ]
          refine wpAnyH_take (i := 7) (v := .agg csx) rfl (by kernel_rfl) (by kernel_rfl) (by kernel_rfl) (fun _ _ _ h => h) (Or.inl ⟨by rfl, fun w' hw' => ?yL7⟩) HH.out ?_
          case yL7 => exact exec_load_at 27 (.tmp 72) rfl (ad.add (j * 11)) rfl (HCW.out _ (B4.out.trans (hw'.mono B4.out.size))) Try.underlying27 rfl HIx.out
          try simp only [List.getElem_toArray, List.getElem_cons_succ, List.getElem_cons_zero, Act.put, List.setIfInBounds_toArray, List.set_cons_zero, List.set_cons_succ]
          refine wpAnyH_ready (rs := [8]) (by kernel_rfl) (by simp) (AllReadyH.cons rfl (fun K hK => ?_) AllReadyH.nil)
          go_simp
          refine (HSM.out _ HH.out).mono ?_
          rintro e w6 ⟨rfl, bw⟩
          have hb := HH.out.trans (bw.mono HH.out.size)
          go_simp
          refine hK.out _ _ hb (fun hh => ?_)
          have HH' := Lib.hid hh
          clear hh hK K HH bw
          have HH := Lib.hid HH'.out
          clear HH'
          try simp only [List.getElem_toArray, List.getElem_cons_succ, List.getElem_cons_zero, Act.put, List.setIfInBounds_toArray, List.set_cons_zero, List.set_cons_succ]
          refine wpAnyH_take (i := 9) (v := ?vL9) rfl (by kernel_rfl) (by kernel_rfl) (by kernel_rfl) (fun _ _ _ h => h) (Or.inl ⟨by rfl, fun w' _ => ?yL9⟩) HH.out ?_
          case yL9 => (go_simp; try with_reducible rfl)
          refine wpAnyH_take (i := 10) (v := ?vL10) rfl (by kernel_rfl) (by kernel_rfl) (by kernel_rfl) (fun _ _ _ h => h) (Or.inl ⟨by rfl, fun w' _ => ?yL10⟩) HH.out ?_
          case yL10 => (go_simp; try with_reducible rfl)
          try simp only [List.getElem_toArray, List.getElem_cons_succ, List.getElem_cons_zero, Act.put, List.setIfInBounds_toArray, List.set_cons_zero, List.set_cons_succ]
          refine wpAnyH_take (i := 11) (v := ?vL11) rfl (by kernel_rfl) (by kernel_rfl) (by kernel_rfl) (fun _ _ _ h => h) (Or.inl ⟨by rfl, fun w' _ => ?yL11⟩) HH.out ?_
          case yL11 => (go_simp; try with_reducible rfl)
          refine wpAnyH_take (i := 12) (v := ?vL12) rfl (by kernel_rfl) (by kernel_rfl) (by kernel_rfl) (fun _ _ _ h => h) (Or.inl ⟨by rfl, fun w' _ => ?yL12⟩) HH.out ?_
          case yL12 => (go_simp; try with_reducible rfl)
          refine wpAnyH_take (i := 13) (v := ?vL13) rfl (by kernel_rfl) (by kernel_rfl) (by kernel_rfl) (fun _ _ _ h => h) (Or.inl ⟨by rfl, fun w' _ => ?yL13⟩) HH.out ?_
          case yL13 => (go_simp; try with_reducible rfl)
          try simp only [List.getElem_toArray, List.getElem_cons_succ, List.getElem_cons_zero, Act.put, List.setIfInBounds_toArray, List.set_cons_zero, List.set_cons_succ]
          refine wpAnyH_take (i := 14) (v := ?vL14) rfl (by kernel_rfl) (by kernel_rfl) (by kernel_rfl) (fun _ _ _ h => h) (Or.inl ⟨by rfl, fun w' _ => ?yL14⟩) HH.out ?_
          case yL14 => (go_simp; try with_reducible rfl)
          refine wpAnyH_take (i := 15) (v := ?vL15) rfl (by kernel_rfl) (by kernel_rfl) (by kernel_rfl) (fun _ _ _ h => h) (Or.inl ⟨by rfl, fun w' _ => ?yL15⟩) HH.out ?_
          case yL15 => (go_simp; try with_reducible rfl)
          refine wpAnyH_take (i := 16) (v := ?vL16) rfl (by kernel_rfl) (by kernel_rfl) (by kernel_rfl) (fun _ _ _ h => h) (Or.inl ⟨by rfl, fun w' _ => ?yL16⟩) HH.out ?_
          case yL16 => (go_simp; try with_reducible rfl)
          try simp only [List.getElem_toArray, List.getElem_cons_succ, List.getElem_cons_zero, Act.put, List.setIfInBounds_toArray, List.set_cons_zero, List.set_cons_succ]
          refine wpAnyH_take (i := 17) (v := ?vL17) rfl (by kernel_rfl) (by kernel_rfl) (by kernel_rfl) (fun _ _ _ h => h) (Or.inl ⟨by rfl, fun w' _ => ?yL17⟩) HH.out ?_
          case yL17 => (go_simp; try with_reducible rfl)
          try simp only [List.getElem_toArray, List.getElem_cons_succ, List.getElem_cons_zero, Act.put, List.setIfInBounds_toArray, List.set_cons_zero, List.set_cons_succ]
          refine wpAnyH_done (by kernel_rfl) ?_ _
          have OQ' := Lib.hid (own_below OQ.out HH.out)
          have B5 := Lib.hid (B4.out.trans (HH.out.mono B4.out.size))
          go_wp2_with fail
          go_roundw
          case rel => exact ⟨j + 1, m2, A10, c10, by omega, by omega, by go_num, rfl, B5.out, own_eq OQ'.out rfl (by rw [HRS.out])⟩
          case measure => (simp [intOf]; try omega)
        · obtain rfl : N = j := by omega
          have hd : l.drop N = [] := List.drop_eq_nil_of_le (by rw [HL.out]; exact Nat.le_refl _)
          rw [hd] at how
          obtain rfl : m = 0 := (own_blen how).symm
          have HB := Lib.hid hbw
          clear how hbw hd
          go_wp2_with fail
          go_ret
          exact ⟨rfl, HB.out⟩
theorem cellRows_own : ownKnob Try.prog.godebug = none := by kernel_rfl
theorem cellRows_laid : laidOutB Try.prog = true := by kernel_rfl

set_option maxRecDepth 100000 in
theorem cellRows_lifted (os : Os) (started : os.Started) (H : Type) (enc : TypeId × Value → H) :
    ReturnsInHanded {} Try.checked os 7 .any (Rows.cellRowsSpec.pre6 enc Try.prog Try.f7 Rows.cellRowsRow.domain false) (Rows.cellRowsSpec.post enc Try.prog Try.f7 false true false false) := by
  refine returnsInHanded_of_change (C := Try.checked) cellRows_own started (by kernel_rfl) Try.func7
    (ChangeSpec.witness6 (enc := enc) (C := Try.checked) false ⟨#[], #[.slice none 0 0], []⟩ 8 (by kernel_rfl) (by kernel_rfl) (by kernel_rfl) (by kernel_rfl)) ?_
  intro W base args ds gs before hval0 hW _ _
  have hval : ∀ (j : Nat) t v, Try.f7.params[j]? = some t → args[j]? = some v → Value.okWide Try.prog W .any base t v := hval0
  have hW' := hW
  obtain ⟨p, q, hA0, hV, rfl, hfz, hnd⟩ := hW
  have hA : DataW.TrodAll enc Try.prog W 0 (fun _ => true) true Try.f7.params.toList args.toList ds p := hA0
  rw [Try.params7] at hA hval
  obtain ⟨v0, vs0, d0, ds0, p0, q0, hargs, rfl, rfl, h0, r0⟩ := trodAll_cons hA
  obtain ⟨rfl, rfl, rfl⟩ := trodAll_nil r0
  obtain rfl : args = #[v0] := by cases args; simp_all
  obtain ⟨rfl, rfl⟩ := trodVars_none hV
  obtain ⟨a0, n0, c0, rfl⟩ := okWide_slice Try.underlying42 (hval 0 42 v0 rfl rfl)
  have lt0 : ∀ x ∈ p0, x.block < W.heap.size := by obtain ⟨m, hm⟩ := h0; exact DataW.trod_lt m _ _ _ hm
  obtain ⟨l0, hl0, hc0, hm0, hr0⟩ := Ce.open_cells h0
  clear hA0 hval0
  refine (cellRows_any W a0 n0 c0 l0 hl0 hc0 hm0 hr0).mono fun e W' ⟨he, bel⟩ => ?_
  subst he
  exact ⟨_, rfl, _, _, _, [], _, [], hW', trodAll_mk1 (shut_bool Try.underlying4 _), (trodAll_cons_mk (Below.trod cellRows_laid (by kernel_rfl) (of_decide_eq_true (by kernel_rfl)) h0 bel lt0) trodAll_mk0), rfl, bel.frame _, fun h => by cases h⟩

theorem cellRows_holds : Rows.CellRowsSaid :=
  OpenClaim.holds_of_wide 7 Try.f7 rfl rfl rfl rfl rfl rfl rfl ⟨rfl, rfl, rfl, rfl, rfl⟩ rfl rfl rfl rfl rfl (by kernel_rfl) Try.func7 (by kernel_rfl)
    (of_decide_eq_true (by kernel_rfl)) (by unfold Func.isWrapper; rw [if_neg (of_decide_eq_false (by kernel_rfl))]; exact ⟨rfl, rfl⟩)
    (fun os started H enc _ => cellRows_lifted os started H enc)

#print axioms cellRows_holds

end Go.Proofs.Ytjcmmeppadhjiaa
