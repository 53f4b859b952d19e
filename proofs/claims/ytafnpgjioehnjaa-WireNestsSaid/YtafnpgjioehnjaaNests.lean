/-
  WireNests holds: for every rows of parts the law returns true and its argument reads as it did.
-/
import Derived.Test.YtafnpgjioehnjaaAwake
import Derived.Test.YtafnpgjioehnjaaUse
import Derived.Test.YtafnpgjioehnjaaListSame
import Derived.Test.YtafnpgjioehnjaaOpen
import Derived.ProofKit
import Derived.OpenShut
import Derived.ShutString
import Derived.ChangeOld
namespace Go.Proofs.Ytafnpgjioehnjaa
open Go.RowKit Go.ChangeShapes Go.WideShapes Go.ChangeAt

theorem all_take {ls : List (List UInt8)} {k M : Nat} (h : ∀ l ∈ ls.take k, l.length ≤ M) (hk : k < ls.length) (hl : ls[k].length ≤ M) : ∀ l ∈ ls.take (k + 1), l.length ≤ M := by
  intro l hm
  rw [List.take_succ_eq_append_getElem hk, List.mem_append] at hm
  rcases hm with hm | hm
  · exact h l hm
  · simp at hm
    rw [hm]; exact hl
theorem all_whole {ls : List (List UInt8)} {k M : Nat} (h : ∀ l ∈ ls.take k, l.length ≤ M) (hk : ¬ k < ls.length) : ∀ l ∈ ls, l.length ≤ M := by
  rwa [List.take_of_length_le (by omega)] at h
/-- Rows of rows of bytes. -/
def Rd3 (B : Nat) (w : World) (A : Option Addr) (L : List (List (List UInt8))) : Prop := RdL B w (IsL B w (IsB B w)) A L
theorem Rd3.at_ {B : Nat} {w : World} {A : Option Addr} {L : List (List (List UInt8))} (h : Rd3 B w A L) {k : Nat} (hk : k < L.length) : ∃ ad A1 c1, A = some ad ∧ ad.block < B ∧ w.cell? (ad.add k) = some (.slice A1 L[k].length c1) ∧ L[k].length ≤ c1 ∧ c1 ≤ maxLen ∧ RdB B w A1 L[k] := by
  obtain ⟨ad, v, e1, e2, e3, A1, c1, rfl, h1, h2, h3⟩ := RdL.at_ h hk
  exact ⟨ad, A1, c1, e1, e2, e3, h1, h2, h3⟩
theorem Rd3.below {B : Nat} {w w' : World} {A : Option Addr} {L : List (List (List UInt8))} (h : Rd3 B w A L) (hb : Below B w w') : Rd3 B w' A L :=
  (RdL.below h hb).imp fun _ _ _ ⟨A1, c1, e1, h1, h2, h3⟩ => ⟨A1, c1, e1, h1, h2, RdB.below h3 hb⟩
/-- What the law lets in. -/
def Small (L : List (List (List UInt8))) : Prop := ∀ ls ∈ L, ls.length ≤ 6 ∧ ∀ l ∈ ls, l.length ≤ 60
theorem Small.nil : Small [] := fun ls h => by simp at h
theorem Small.snoc {L : List (List (List UInt8))} {k : Nat} (h : Small (L.take k)) (hk : k < L.length) (h1 : L[k].length ≤ 6) (h2 : ∀ l ∈ L[k], l.length ≤ 60) : Small (L.take (k + 1)) := by
  intro ls hm
  rw [List.take_succ_eq_append_getElem hk, List.mem_append] at hm
  rcases hm with hm | hm
  · exact h ls hm
  · simp at hm
    rw [hm]; exact ⟨h1, h2⟩
theorem Small.whole {L : List (List (List UInt8))} {k : Nat} (h : Small (L.take k)) (hk : ¬ k < L.length) : Small L := by
  rwa [List.take_of_length_le (by omega)] at h
theorem map_more {L : List (List (List UInt8))} {k : Nat} (hk : k < L.length) : (L.take (k + 1)).map frameL = (L.take k).map frameL ++ [frameL L[k]] := by
  rw [List.take_succ_eq_append_getElem hk, List.map_append]; rfl

set_option maxRecDepth 100000 in
set_option maxHeartbeats 1600000 in
theorem wireNests_any (w : World) (A : Option Addr) (n c : Nat) (L : List (List (List UInt8))) (hn : L.length = n) (hnc : n ≤ c) (hcm : c ≤ maxLen) (ha : Rd3 w.heap.size w A L) :
    Calls Try.prog 8 #[.slice A n c] w (RetB (.bool true) w) := by
  subst hn
  have m1 : L.length ≤ maxLen := Nat.le_trans hnc hcm
  unfold maxLen at m1
  by_cases h1 : L.length ≤ 6
  · go_enter Try.func8, Try.ntmps8
    go_wp2_with fail
    refine (awake_any _).mono ?_
    rintro e w1 ⟨rfl, hb1⟩
    go_wp2_with fail
    go_loopw [3, 4] (fun o i wr => ∃ (k : Nat) (A3 : Option Addr) (c3 : Nat) (vs : List Value), k ≤ L.length ∧ i = .int .i64 k ∧ o = .slice A3 k c3 ∧ Hid (Small (L.take k)) ∧ Below w.heap.size w wr ∧ wr.ownsRow w.heap.size 23 1 (.slice A3 k c3) k vs ∧ OwnLs 5 wr w.heap.size vs ((L.take k).map frameL)) (fun _ i _ => L.length - (intOf i).toNat)
    case atStart => exact ⟨0, none, 0, [], Nat.zero_le _, rfl, rfl, Small.nil, hb1, World.ownsRow_nil _ _ _ _, OwnLs.nil⟩
    case round =>
      obtain ⟨k, A3, c3, vs, hk, rfl, rfl, HS, hb, hor, hols⟩ := hrel
      by_cases hlt : k < L.length
      · obtain ⟨ad, A1, c1, rfl, hbl, hca, h11, h12, hr⟩ := (ha.below hb).at_ hlt
        have h1m := Nat.le_trans h11 h12
        have H1M := Lib.hid h1m
        unfold maxLen at h1m
        by_cases h6 : L[k].length ≤ 6
        · obtain ⟨wo, rfl⟩ : ∃ wo : World, wo = wr := ⟨_, rfl⟩
          go_wp2_with fail
          go_loop [5] (fun j => ∃ q : Nat, q ≤ L[k].length ∧ j = .int .i64 q ∧ Hid (∀ l ∈ L[k].take q, l.length ≤ 60)) (fun j => L[k].length - (intOf j).toNat)
          case atStart => exact ⟨0, Nat.zero_le _, rfl, fun l hl => by simp at hl⟩
          case round =>
            obtain ⟨q, hq, rfl, HT⟩ := hrel
            by_cases hqt : q < L[k].length
            · obtain ⟨ad2, A2, c2, rfl, _, hcb, _, _, _⟩ := hr.at_ hqt
              by_cases h60 : (L[k][q]).length ≤ 60
              · have h60' : ((L[k][q]).length : Int) ≤ 60 := by omega
                go_wp2_with fail
                go_round
                case rel => exact ⟨q + 1, by omega, by go_num, all_take HT.out hqt h60⟩
                case measure => simp [intOf]; omega
              · have h60' : (60 : Int) < ((L[k][q]).length : Int) := by omega
                go_wp2_with fail
                go_ret
                exact ⟨rfl, hb⟩
            · have hall := all_whole HT.out hqt
              have HA := Lib.hid hall
              have H6 := Lib.hid (show ∀ l ∈ L[k], l.length ≤ 65535 from fun l hl => Nat.le_trans (hall l hl) (by omega))
              have HF := Lib.hid (show (frameL L[k]).length ≤ 140737488355328 by have hf := frame_size hall; omega)
              clear hall HT
              go_wp2_with fail
              refine (wframe_any _ _ c1 L[k] _ rfl H1M.out (hr.more hb.size) H6.out HF.out).mono ?_
              rintro e w2 ⟨A2, n2, c2, rfl, ho2, hb2⟩
              have hb2w := hb.trans (hb2.mono hb.size)
              have hor2 := own_below hor hb2
              have hols2 := hols.below hb2
              have ho2w := own_more ho2 hb.size
              clear hb2 ho2 hor hols
              go_wp2_with (at_builtin; refine wpList_app _ rfl (.tmp 60) (.tmp 62) _ rfl rowsElt (base := w.heap.size) (v := .slice A3 k c3) rfl (hor2.alloc _) (m := 1) rfl (Rd.lit w2 23 [.slice A2 n2 c2]) rfl ?_ ?_ ?_ ?_; (intro u hu; simp at hu; subst hu; rfl); omega; exact (hb2w.alloc hb2w.size _).size; intro A8 c8 w8 ho8 hg8 _)
              have hb8 := app_below (hb2w.alloc hb2w.size _) (hor2.alloc _) hg8 (Nat.le_refl _) (hb2w.alloc hb2w.size _).size
              have hols8 := ((hols2.alloc _).kept (hor2.alloc _) hg8 (by decide)).snoc ((ho2w.alloc _).kept hg8 (own_ne ho2w hor2 (by decide)))
              go_roundw
              case rel => exact ⟨k + 1, A8, c8, _, by omega, by go_num, rfl, HS.out.snoc hlt h6 HA.out, hb8, ho8, by rw [map_more hlt]; exact hols8⟩
              case measure => simp [intOf]; omega
        · have h6' : (6 : Int) < (L[k].length : Int) := by omega
          go_wp2_with fail
          go_ret
          exact ⟨rfl, hb⟩
      · obtain rfl : k = L.length := by omega
        have hsm := HS.out.whole hlt
        rw [List.take_of_length_le (Nat.le_refl _)] at hols
        obtain ⟨R, hR⟩ : ∃ R : List (List UInt8), R = L.map frameL := ⟨_, rfl⟩
        rw [← hR] at hols
        have hRl : R.length = L.length := by rw [hR, List.length_map]
        have hRs : ∀ l ∈ R, l.length ≤ 372 := by
          intro l hl
          rw [hR, List.mem_map] at hl
          obtain ⟨ls, hls, rfl⟩ := hl
          have h2 := frame_size (hsm ls hls).2
          have h3 := (hsm ls hls).1
          omega
        have hRf := frame_size hRs
        have hRf' : (frameL R).length ≤ 2244 := by omega
        have HR6 := Lib.hid (show ∀ l ∈ R, l.length ≤ 65535 from fun l hl => Nat.le_trans (hRs l hl) (by omega))
        have hRg : ∀ i, (hi : i < L.length) → R[i]? = some (frameL L[i]) := fun i hi => by rw [hR, List.getElem?_map, List.getElem?_eq_getElem hi]; rfl
        have HRg := Lib.hid hRg
        have HSM := Lib.hid hsm
        have HRl := Lib.hid hRl
        have rr := (hols.rdb hor).2
        have mr := own_max hor
        have MR := Lib.hid mr
        clear hR hRs hRf hRg hsm hRl mr
        go_wp2_with fail
        refine (wframe_any A3 _ c3 R _ HRl.out MR.out rr HR6.out (by omega)).mono ?_
        rintro e w2 ⟨A2, n2, c2, rfl, ho2, hb2⟩
        obtain rfl : (frameL R).length = n2 := own_blen ho2
        have hq := own_cap ho2
        have HP := Lib.hid (parts_frame HR6.out)
        have z2 := hb2.size
        go_wp2_with fail
        refine (wparts_some HP.out rfl hq.1 hq.2 (Rd.own ho2) (by omega)).mono ?_
        rintro e w3 ⟨A4, c4, vs4, rfl, ho4, hl4, hb4⟩
        have z4 := hb4.size
        have hm4 := own_max ho4
        have HM4 := Lib.hid hm4
        have hb24 := hb2.trans (hb4.mono z2)
        have r4 := (hl4.rdb ho4).2
        clear ho2 hb2 hb4 hl4 ho4
        go_wp2_with fail
        refine (rows_r (b := true) (xs := R) (ys := R) (decide_eq_true rfl) rfl HRl.out r4 (rr.below hb24) HM4.out MR.out).mono ?_
        rintro e w5 ⟨rfl, hb5⟩
        have r5 := r4.below hb5
        have b5 := hb.trans ((hb24.trans (hb5.mono hb24.size)).mono hb.size)
        have z35 := hb5.size
        clear rr hb24 hb hor hols r4 hb5
        unfold maxLen at hm4
        go_wp2_with fail
        go_loopw [12] (fun i wr => ∃ k : Nat, k ≤ R.length ∧ i = .int .i64 k ∧ Below w5.heap.size w5 wr) (fun i _ => R.length - (intOf i).toNat)
        case atStart => exact ⟨0, Nat.zero_le _, rfl, Below.refl _ _⟩
        case round =>
          obtain ⟨q, hk, rfl, hbr⟩ := hrel
          by_cases hqt : q < R.length
          · have hqL : q < L.length := by have h := HRl.out; omega
            have hw := b5.trans (hbr.mono b5.size)
            have r6 := r5.below (hbr.mono z35)
            obtain ⟨pd, A5, c5, rfl, _, hcp, h51, h52, hrp⟩ := r6.at_ hqt
            obtain ⟨ld, A6, c6, rfl, hlb, hcl0, h61, h62, hrl⟩ := ha.at_ hqL
            have hcl := (hw.cell (p := ld.add q) (by rw [add_block]; exact hlb)).trans hcl0
            have e1 : R[q] = frameL L[q] := by
              have h := HRg.out q hqL
              rw [List.getElem?_eq_getElem hqt] at h
              injection h
            have hs6 := HSM.out _ (List.getElem_mem hqL)
            have hpr : partsL R[q] = some L[q] := by rw [e1]; exact parts_frame fun l hl => Nat.le_trans (hs6.2 l hl) (by omega)
            have hlr : R[q].length ≤ 1099511627776 := by
              have h := frame_size hs6.2
              have h2 := hs6.1
              rw [e1]; omega
            have HPR := Lib.hid hpr
            have H6M := Lib.hid (Nat.le_trans h61 h62)
            have hzr := Nat.le_trans z35 hbr.size
            clear e1 hpr hs6
            go_wp2_with fail
            refine (wparts_some HPR.out rfl h51 h52 (hrp.more hzr) hlr).mono ?_
            rintro e w7 ⟨A7, c7, vs7, rfl, ho7, hl7, hb7⟩
            have hbr7 := hbr.trans (hb7.mono hbr.size)
            have hw7 := b5.trans (hbr7.mono b5.size)
            have hcl7 := (hw7.cell (p := ld.add q) (by rw [add_block]; exact hlb)).trans hcl0
            have r7 := (hl7.rdb ho7).2
            have m7 := own_max ho7
            clear ho7 hl7 hb7
            go_wp2_with fail
            refine (rows_r (b := true) (xs := L[q]) (ys := L[q]) (decide_eq_true rfl) rfl rfl r7 (hrl.below hw7) m7 H6M.out).mono ?_
            rintro e w8 ⟨rfl, hb8⟩
            have hbr8 := hbr7.trans (hb8.mono hbr7.size)
            go_wp2_with fail
            go_roundw
            case rel => exact ⟨q + 1, by omega, by go_num, hbr8⟩
            case measure => simp [intOf]; omega
          · go_wp2_with fail
            go_ret
            exact ⟨rfl, b5.trans (hbr.mono b5.size)⟩
  · have h1' : (6 : Int) < (L.length : Int) := by omega
    go_enter Try.func8, Try.ntmps8
    go_wp2_with fail
    refine (awake_any _).mono ?_
    rintro e w1 ⟨rfl, hb1⟩
    go_wp2_with fail
    go_ret
    exact ⟨rfl, hb1⟩
theorem wireNests_own : ownKnob Try.prog.godebug = none := by kernel_rfl
theorem wireNests_laid : laidOutB Try.prog = true := by kernel_rfl

set_option maxRecDepth 100000 in
theorem wireNests_lifted (os : Os) (started : os.Started) (H : Type) (enc : TypeId × Value → H) :
    ReturnsInHanded {} Try.checked os 8 .any (Rows.wireNestsSpec.pre6 enc Try.prog Try.f8 Rows.wireNestsRow.domain false) (Rows.wireNestsSpec.post enc Try.prog Try.f8 false true false false) := by
  refine returnsInHanded_of_change (C := Try.checked) wireNests_own started (by kernel_rfl) Try.func8
    (ChangeSpec.witness6 (enc := enc) (C := Try.checked) false ⟨#[], #[.slice none 0 0], []⟩ 8 (by kernel_rfl) (by kernel_rfl) (by kernel_rfl) (by kernel_rfl)) ?_
  intro W base args ds gs before hval0 hW _ _
  have hval : ∀ (j : Nat) t v, Try.f8.params[j]? = some t → args[j]? = some v → Value.okWide Try.prog W .any base t v := hval0
  have hW' := hW
  obtain ⟨p, q, hA0, hV, rfl, hfz, hnd⟩ := hW
  have hA : DataW.TrodAll enc Try.prog W 0 (fun _ => true) true Try.f8.params.toList args.toList ds p := hA0
  rw [Try.params8] at hA hval
  obtain ⟨v0, vs0, d0, ds0, p0, q0, hargs, rfl, rfl, h0, r0⟩ := trodAll_cons hA
  obtain ⟨rfl, rfl, rfl⟩ := trodAll_nil r0
  obtain rfl : args = #[v0] := by cases args; simp_all
  obtain ⟨rfl, rfl⟩ := trodVars_none hV
  obtain ⟨a0, n0, c0, rfl⟩ := okWide_slice Try.underlying43 (hval 0 43 v0 rfl rfl)
  have lt0 : ∀ x ∈ p0, x.block < W.heap.size := by obtain ⟨m, hm⟩ := h0; exact DataW.trod_lt m _ _ _ hm
  obtain ⟨l0, hl0, hc0, hm0, hr0⟩ := open_rows3 Try.underlying43 Try.underlying31 Try.underlying23 Try.underlying5 (by kernel_rfl) (by kernel_rfl) (by kernel_rfl) h0
  clear hA0 hval0
  refine (wireNests_any W a0 n0 c0 l0 hl0 hc0 hm0 hr0).mono fun e W' ⟨he, bel⟩ => ?_
  subst he
  exact ⟨_, rfl, _, _, _, [], _, [], hW', trodAll_mk1 (shut_bool Try.underlying4 _), (trodAll_cons_mk (Below.trod wireNests_laid (by kernel_rfl) (of_decide_eq_true (by kernel_rfl)) h0 bel lt0) trodAll_mk0), rfl, bel.frame _, fun h => by cases h⟩

theorem wireNests_holds : Rows.WireNestsSaid :=
  OpenClaim.holds_of_wide 8 Try.f8 rfl rfl rfl rfl rfl rfl rfl ⟨rfl, rfl, rfl, rfl, rfl⟩ rfl rfl rfl rfl rfl (by kernel_rfl) Try.func8 (by kernel_rfl)
    (of_decide_eq_true (by kernel_rfl)) (by unfold Func.isWrapper; rw [if_neg (of_decide_eq_false (by kernel_rfl))]; exact ⟨rfl, rfl⟩)
    (fun os started H enc _ => wireNests_lifted os started H enc)

#print axioms wireNests_holds

end Go.Proofs.Ytafnpgjioehnjaa
