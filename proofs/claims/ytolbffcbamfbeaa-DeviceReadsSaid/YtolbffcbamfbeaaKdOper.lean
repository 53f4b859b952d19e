/-
  The contract of a power's operation: it is counted, and each device is told if power fails at it.
-/
import Derived.Test.YtolbffcbamfbeaaKdSys
namespace Go.Proofs.Ytolbffcbamfbeaa.Kd
open Go.RowKit Go.Maps
attribute [local go_sem ↓] Go.wp_at_zero Go.wp_at_succ
/-- The first k of the devices have been told. -/
def fallK (k : Nat) (ds : List Dv) : List Dv := (ds.take k).map Dv.fall ++ ds.drop k
theorem fallK_zero (ds : List Dv) : fallK 0 ds = ds := rfl
theorem fallK_all {k : Nat} {ds : List Dv} (h : ds.length ≤ k) : fallK k ds = ds.map Dv.fall := by rw [fallK, List.take_of_length_le h, List.drop_of_length_le h, List.append_nil]
theorem fallK_length (k : Nat) (ds : List Dv) : (fallK k ds).length = ds.length := by rw [fallK, List.length_append, List.length_map, List.length_take, List.length_drop]; omega
theorem fallK_at {k : Nat} {ds : List Dv} (h : k < ds.length) : (fallK k ds).getD k noDv = ds.getD k noDv := by
  rw [fallK, List.getD_eq_getElem?_getD, List.getElem?_append_right (by rw [List.length_map, List.length_take]; omega), List.length_map, List.length_take, Nat.min_eq_left (by omega), Nat.sub_self, List.getElem?_drop, Nat.add_zero, List.getD_eq_getElem?_getD]
theorem fallK_succ {k : Nat} {ds : List Dv} (h : k < ds.length) : fallK (k + 1) ds = (fallK k ds).set k (ds.getD k noDv).fall := by
  rw [fallK, fallK, List.take_succ_eq_append_getElem h, List.map_append, List.append_assoc, List.set_append_right _ _ (by rw [List.length_map, List.length_take]; omega), List.length_map, List.length_take, Nat.min_eq_left (by omega), Nat.sub_self, List.drop_eq_getElem_cons h, List.set_cons_zero, List.getD_eq_getElem?_getD, List.getElem?_eq_getElem h]
  rfl
theorem rd_clo {B : Nat} {w : World} {A : Option Addr} {bs : List Nat} (h : Rd B w A (bs.map cloV)) {k : Nat} (hk : k < bs.length) : ∃ ad, A = some ad ∧ ad.block < B ∧ w.cell? (ad.add k) = some (cloV (bs.getD k 0)) := by
  refine h k _ ?_
  rw [List.getElem?_map, List.getElem?_eq_getElem hk, List.getD_eq_getElem?_getD, List.getElem?_eq_getElem hk]; rfl
section
variable {w : World} {p : Nat} {gs bs : List Nat} {S : Sy} {Fs : Nat → Nat → Prop} {F : Nat → Prop} {FA : Option Addr} {fc : Nat} {lf : Int}
/-- Power has turned: its struct is written. -/
theorem SysR.power {w' : World} (h : SysR w p gs bs S Fs FA fc lf) (hb : But (fun k => k = p) w w') {P : Pw} {lf' : Int} (hp : Blk w' p #[.bool (!P.off), .int .i64 lf', .slice FA bs.length fc] 70) (h1 : P.off = false → lf' = P.left) (h2 : -1 ≤ lf' ∧ lf' ≤ 9223372036854775807) (h3 : -1 ≤ P.left)
    (hr : ∀ k, (Value.slice FA bs.length fc).ownBlock = some k → k ≠ p) : SysR w' p gs bs ⟨P, S.ds⟩ Fs FA fc lf' :=
  ⟨⟨hp, Own.but h.pow.row hb hr, h1, h2.1, h2.2, h3⟩, h.gl, h.bl, fun i hi => (h.dev i hi).but hb (fun q hq e => (h.other i q hi hq).1 e), fun i hi => (h.box i hi).but hb (fun e => by
    have h1 : Blk w p _ 70 := h.pow.blk
    have h2 := h.box i hi
    unfold Blk at h1 h2
    rw [e, h1] at h2
    injection h2 with h2
    injection h2 with _ h2
    exact absurd h2 (by decide)), h.apart, fun i q hi hq => Nat.lt_of_lt_of_le (h.lt i q hi hq) hb.size, h.other⟩
theorem SysR.row_ne (h : SysR w p gs bs S Fs FA fc lf) : ∀ k, (Value.slice FA bs.length fc).ownBlock = some k → k ≠ p := by
  rintro k hk rfl
  have h1 : Blk w k _ 70 := h.pow.blk
  rcases h.pow.row.2 with ⟨h0, _⟩ | ⟨g, cap, cur, hv, _, h2, _⟩
  · rw [h0] at hk; cases hk
  · rw [hv] at hk
    injection hk with hk
    have hk' : g = k := hk
    subst hk'
    unfold Blk at h1
    rw [h1] at h2
    injection h2 with h2
    injection h2 with _ h2
    exact absurd h2 (by decide)
/-- What an operation may write. -/
def opF (p : Nat) (Fs : Nat → Nat → Prop) (n : Nat) : Nat → Prop := fun q => q = p ∨ ∃ i, i < n ∧ Fs i q
set_option maxRecDepth 100000 in
set_option maxHeartbeats 3200000 in
theorem oper_any (h : SysR w p gs bs S Fs FA fc lf) (hon : S.p.off = false) :
    Calls Try.prog 44 #[.pointer (some ⟨p, 0, none⟩)] w (fun e' w' => e' = .returned (.bool (!S.p.fails)) ∧ ∃ Fs' lf', SysR w' p gs bs S.count Fs' FA fc lf' ∧ (∀ i q, i < S.ds.length → Fs' i q → Fs i q ∨ w.heap.size ≤ q) ∧ But (opF p Fs S.ds.length) w w') := by
  have H := Lib.hid h
  have hlf := h.pow.same hon
  have hlo := h.pow.lo
  have hhi := h.pow.hi
  have c1 : w.cell? ⟨p, 1, none⟩ = some (.int .i64 lf) := h.pow.blk.cell 1
  have f1 := h.pow.blk.free 1
  have f0 := h.pow.blk.free 0
  have c0 : w.cell? ⟨p, 0, none⟩ = some (.bool true) := by have := h.pow.blk.cell 0; rw [hon] at this; exact this
  have HON := Lib.hid hon
  by_cases hn : lf = -1
  · have hfl : S.p.fails = false := by unfold Pw.fails; rw [← hlf, hn]; rfl
    have HC := Lib.hid (show S.count = S by unfold Sy.count; rw [hfl, if_neg (by simp)]; unfold Pw.step; rw [if_pos (by omega)])
    have HFL := Lib.hid hfl
    subst hn
    clear h hfl hlf hon
    go_enter Try.func44, Try.ntmps44
    go_wp2_with fail
    go_ret
    exact ⟨by rw [HFL.out]; rfl, Fs, _, by rw [HC.out]; exact H.out, fun i q _ hq => .inl hq, But.refl _⟩
  · by_cases hp : lf > 0
    · have hfl : S.p.fails = false := by unfold Pw.fails; rw [← hlf, decide_eq_false (show ¬ lf - 1 < 0 by omega), Bool.and_false]
      have HC := Lib.hid (show S.count = ⟨⟨false, lf - 1⟩, S.ds⟩ by unfold Sy.count; rw [hfl, if_neg (by simp)]; unfold Pw.step; rw [if_neg (by omega), ← hlf, decide_eq_false (show ¬ lf - 1 < 0 by omega)])
      have HFL := Lib.hid hfl
      have d1 : (lf == -1) = false := by simp; omega
      have d2 : decide (lf > 0) = true := decide_eq_true hp
      have es : IntKind.i64.wrap (lf - 1) = lf - 1 := IntWalk.i64_in _ (by omega)
      have HLP := Lib.hid hp
      clear h hfl hlf hon hn hp
      go_enter Try.func44, Try.ntmps44
      go_wp2_with fail
      go_ret
      refine ⟨by rw [HFL.out]; rfl, Fs, lf - 1, by rw [HC.out]; exact H.out.power (but_one _) (blk_eq8 (blk_setN8 H.out.pow.blk 1 _) (by rw [HON.out]; rfl)) (fun _ => rfl) (by have := HLP.out; omega) (by have := HLP.out; show -1 ≤ lf - 1; omega) H.out.row_ne, fun i q _ hq => .inl hq, (but_one _).mono (fun q hq => .inl hq)⟩
    · obtain rfl : lf = 0 := by omega
      have hfl : S.p.fails = true := by unfold Pw.fails; rw [← hlf]; rfl
      have HC := Lib.hid (show S.count = ⟨⟨true, -1⟩, S.ds.map Dv.fall⟩ by unfold Sy.count; rw [hfl, if_pos rfl]; unfold Pw.step; rw [if_neg (by omega), ← hlf]; rfl)
      have HFL := Lib.hid hfl
      have HX := Lib.hid (show SysR (w.setCell ⟨p, 0, none⟩ (.bool false)) p gs bs ⟨⟨true, -1⟩, S.ds⟩ Fs FA fc 0 from h.power (but_one _) (blk_eq8 (blk_setN8 h.pow.blk 0 _) rfl) (fun e => by cases e) (by omega) (by show -1 ≤ (-1 : Int); omega) h.row_ne)
      have HBT := Lib.hid (show But (opF p Fs S.ds.length) w (w.setCell ⟨p, 0, none⟩ (.bool false)) from (but_one _).mono (fun q hq => .inl hq))
      have c2 : w.cell? ⟨p, 2, none⟩ = some (.slice FA bs.length fc) := h.pow.blk.cell 2
      obtain ⟨nb, hnb⟩ : ∃ nb, nb = bs.length := ⟨_, rfl⟩
      rw [← hnb] at c2
      have HNB := Lib.hid hnb
      have hnm : nb ≤ 9223372036854775807 := by rw [hnb]; exact own_max8 h.pow.row
      clear h hfl hlf hon hn hp hlo hhi hnb
      go_enter Try.func44, Try.ntmps44
      go_wp2_with fail
      go_loopw [32] (fun i wr => ∃ k Gs, k ≤ nb ∧ i = .int .i64 (k : Nat) ∧ SysR wr p gs bs ⟨⟨true, -1⟩, fallK k S.ds⟩ Gs FA fc 0 ∧ Hid (∀ i q, i < S.ds.length → Gs i q → Fs i q ∨ w.heap.size ≤ q) ∧ But (opF p Fs S.ds.length) w wr) (fun i _ => nb - (intOf i).toNat)
      case atStart => exact ⟨0, Fs, by omega, rfl, HX.out, Lib.hid (fun i q _ hq => .inl hq), HBT.out⟩
      case round =>
        clear HX HBT
        obtain ⟨k, Gs, hk, rfl, hs, HG, hbt⟩ := hrel
        have HS := Lib.hid hs
        have HB := Lib.hid hbt
        clear hs hbt
        by_cases hlt : k < nb
        · have hkb : k < bs.length := by rw [← HNB.out]; exact hlt
          have hkd : k < S.ds.length := by have := HS.out.bl; rw [fallK_length] at this; omega
          have hkf : k < (fallK k S.ds).length := by rw [fallK_length]; exact hkd
          obtain ⟨ad, hA, _, hc⟩ := rd_clo (Rd.own HS.out.pow.row) hkb
          subst hA
          obtain ⟨b, hb⟩ : ∃ b, b = bs.getD k 0 := ⟨_, rfl⟩
          rw [← hb] at hc
          unfold cloV at hc
          have k0 : (0 : Int) ≤ (k : Int) := by omega
          have k1 : (k : Int) < (nb : Int) := by omega
          have ek : IntKind.i64.wrap ((k : Int) + 1) = ((k + 1 : Nat) : Int) := by rw [IntWalk.i64_in _ (by omega)]; omega
          have HDV := Lib.hid (HS.out.dev k hkf)
          have HBX := Lib.hid (HS.out.box k hkf)
          rw [← hb] at HBX
          have HKF := Lib.hid hkf
          have HKD := Lib.hid hkd
          have HFS := Lib.hid (fallK_succ hkd)
          have HFA := Lib.hid (fallK_at hkd)
          clear hb hkb hkd hkf
          go_wp2_with fail
          refine (new1_at HDV.out HBX.out).mono ?_
          rintro e2 w2 ⟨rfl, hd, hbt⟩
          have hup := HS.out.upd HKF.out hbt hd
          have HS2 := Lib.hid hup
          have HB2 := Lib.hid (but_step HB.out hbt (fun q hq => by
            rcases HG.out k q HKD.out hq with h1 | h1
            · exact .inl (.inr ⟨k, HKD.out, h1⟩)
            · exact .inr h1))
          have HG2 := Lib.hid (show ∀ i q, i < S.ds.length → (if i = k then grow (Gs k) wr w2 else Gs i) q → Fs i q ∨ w.heap.size ≤ q from fun i q hi hq => by
            by_cases e : i = k
            · subst e
              rw [if_pos rfl] at hq
              rcases hq with hq | hq
              · exact HG.out i q hi hq
              · exact .inr (Nat.le_trans HB.out.size hq.1)
            · rw [if_neg e] at hq; exact HG.out i q hi hq)
          clear hd hbt hup HS HB HDV HBX hc
          go_wp2_with fail
          go_roundw
          case rel => exact ⟨k + 1, _, by omega, by go_num, by rw [HFS.out, ← HFA.out]; exact HS2.out, HG2, HB2.out⟩
          case measure => simp [intOf]; omega
        · obtain rfl : k = nb := by omega
          go_wp2_with fail
          go_ret
          exact ⟨by rw [HFL.out]; rfl, Gs, 0, by rw [HC.out, ← fallK_all (show S.ds.length ≤ k by have h1 := HS.out.bl; have h2 := HNB.out; rw [fallK_length] at h1; omega)]; exact HS.out, HG.out, HB.out⟩
end
end Go.Proofs.Ytolbffcbamfbeaa.Kd
