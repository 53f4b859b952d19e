/-
  WireFrames holds: for every parts and every row of bytes the law returns true and its arguments read as they did.
-/
import Derived.Test.YtafnpgjioehnjaaAwake
import Derived.Test.YtafnpgjioehnjaaUse
import Derived.Test.YtafnpgjioehnjaaListSame
import Derived.Test.YtafnpgjioehnjaaRFrame
import Derived.Test.YtafnpgjioehnjaaOpen
import Derived.ProofKit
import Derived.OpenShut
import Derived.ShutString
import Derived.ChangeOld
namespace Go.Proofs.Ytafnpgjioehnjaa
open Go.RowKit Go.ChangeShapes Go.WideShapes Go.ChangeAt

theorem all_take {ls : List (List UInt8)} {k M : Nat} (h : ∀ l ∈ ls.take k, l.length ≤ M) (hk : k < ls.length) (hl : ls[k].length ≤ M) : ∀ l ∈ ls.take (k + 1), l.length ≤ M := by
  intro l hm
  rw [List.take_succ_eq_append_getElem hk, List.mem_append] at hm
  rcases hm with hm | hm
  · exact h l hm
  · simp at hm
    rw [hm]; exact hl
theorem all_whole {ls : List (List UInt8)} {k M : Nat} (h : ∀ l ∈ ls.take k, l.length ≤ M) (hk : ¬ k < ls.length) : ∀ l ∈ ls, l.length ≤ M := by
  rwa [List.take_of_length_le (by omega)] at h

set_option maxHeartbeats 1600000 in
theorem wireFrames_any (w : World) (A : Option Addr) (n c : Nat) (ls : List (List UInt8)) (hn : ls.length = n) (hnc : n ≤ c) (hcm : c ≤ maxLen) (ha : RdB w.heap.size w A ls)
    (A' : Option Addr) (m d : Nat) (b : List UInt8) (hm : b.length = m) (hmd : m ≤ d) (hdm : d ≤ maxLen) (hb : Rd w.heap.size w A' (bv b)) :
    Calls Try.prog 5 #[.slice A n c, .slice A' m d] w (RetB (.bool true) w) := by
  subst hn; subst hm
  have m1 : ls.length ≤ maxLen := Nat.le_trans hnc hcm
  have m2 : b.length ≤ maxLen := Nat.le_trans hmd hdm
  have M1 := Lib.hid m1
  unfold maxLen at m1 m2
  by_cases h1 : ls.length ≤ 10
  · by_cases h2 : b.length ≤ 300
    · go_enter Try.func5, Try.ntmps5
      go_wp2_with fail
      refine (awake_any _).mono ?_
      rintro e w1 ⟨rfl, hb1⟩
      have z1 := hb1.size
      go_wp2_with fail
      go_loop [5] (fun i => ∃ k : Nat, k ≤ ls.length ∧ i = .int .i64 k ∧ Hid (∀ l ∈ ls.take k, l.length ≤ 300)) (fun i => ls.length - (intOf i).toNat)
      case atStart => exact ⟨0, Nat.zero_le _, rfl, fun l hl => by simp at hl⟩
      case round =>
        obtain ⟨k, hk, rfl, HT⟩ := hrel
        by_cases hlt : k < ls.length
        · obtain ⟨ad, A1, c1, rfl, _, hca, _, _, _⟩ := (ha.below hb1).at_ hlt
          by_cases h3 : ls[k].length ≤ 300
          · have h3' : (ls[k].length : Int) ≤ 300 := by omega
            go_wp2_with fail
            go_round
            case rel => exact ⟨k + 1, by omega, by go_num, all_take HT.out hlt h3⟩
            case measure => simp [intOf]; omega
          · have h3' : (300 : Int) < (ls[k].length : Int) := by omega
            go_wp2_with fail
            go_ret
            exact ⟨rfl, hb1⟩
        · have hall := all_whole HT.out hlt
          have HA := Lib.hid hall
          have hfs := frame_size hall
          have hfs' : (frameL ls).length ≤ 3020 := by omega
          have H6 := Lib.hid (show ∀ l ∈ ls, l.length ≤ 65535 from fun l hl => Nat.le_trans (hall l hl) (by omega))
          clear hall hfs HT
          have a1 := (ha.below hb1).more z1
          go_wp2_with fail
          refine (wframe_any A _ c ls _ rfl M1.out a1 H6.out (by omega)).mono ?_
          rintro e w2 ⟨A2, n2, c2, rfl, ho2, hb2⟩
          obtain rfl : (frameL ls).length = n2 := own_blen ho2
          have z2 := hb2.size
          go_wp2_with fail
          refine (rframe_any A _ c ls _ rfl M1.out ((a1.below hb2).more z2) H6.out (by omega)).mono ?_
          rintro e w3 ⟨A3, n3, c3, rfl, ho3, hb3⟩
          obtain rfl : (frameL ls).length = n3 := own_blen ho3
          have z3 := hb3.size
          have b3 : Below w.heap.size w w3 := (hb1.trans (hb2.mono z1)).trans (hb3.mono (Nat.le_trans z1 z2))
          have x2 := own_below ho2 hb3
          have hbb := hb.below b3
          clear ho2 hb1 hb2 hb3 a1
          have z3w := b3.size
          have hq := own_cap x2
          have hpf := Lib.hid (parts_frame H6.out)
          rcases hp : partsL b with _ | pl
          · have HP := Lib.hid hp
            clear hp
            go_wp2_with fail
            refine (wparts_none HP.out rfl hmd hdm (hbb.more z3w) (by omega)).mono ?_
            rintro e w4 ⟨rfl, hb4⟩
            have z4 := hb4.size
            go_wp2_with fail
            refine (rparts_none HP.out rfl hmd hdm ((hbb.below (hb4.mono z3w)).more (Nat.le_trans z3w z4)) (by omega)).mono ?_
            rintro e w5 ⟨rfl, hb5⟩
            have b35 := hb4.trans (hb5.mono z4)
            clear hb4 hb5
            go_wp2_with fail
            refine (same_r (b := true) (xs := frameL ls) (ys := frameL ls) (decide_eq_true rfl) rfl rfl ((Rd.own x2).below b35) ((Rd.own ho3).below b35) (own_max x2) (own_max ho3)).mono ?_
            rintro e w6 ⟨rfl, hb6⟩
            have b36 := b35.trans (hb6.mono b35.size)
            clear b35 hb6
            go_wp2_with fail
            refine (rows_r (B := 0) (B' := 0) (b := true) (xs := []) (ys := []) (decide_eq_true rfl) rfl rfl RdL.none RdL.none (Nat.zero_le _) (Nat.zero_le _)).mono ?_
            rintro e w7 ⟨rfl, hb7⟩
            have b37 := b36.trans (hb7.mono b36.size)
            have z37 := b37.size
            clear b36 hb7
            go_wp2_with fail
            refine (wparts_some hpf.out rfl hq.1 hq.2 (((Rd.own x2).below b37).more z37) (by omega)).mono ?_
            rintro e w8 ⟨A8, c8, vs, rfl, ho8, hl8, hb8⟩
            have b38 := b37.trans (hb8.mono z37)
            have bw8 : Below w.heap.size w w8 := b3.trans (b38.mono z3w)
            have r8 := (hl8.rdb ho8).2
            go_wp2_with fail
            refine (rows_r (b := true) (xs := ls) (ys := ls) (decide_eq_true rfl) rfl rfl r8 (ha.below bw8) (own_max ho8) M1.out).mono ?_
            rintro e w9 ⟨rfl, hb9⟩
            go_wp2_with fail
            go_ret
            exact ⟨rfl, bw8.trans (hb9.mono bw8.size)⟩
          · have HP := Lib.hid hp
            clear hp
            go_wp2_with fail
            refine (wparts_some HP.out rfl hmd hdm (hbb.more z3w) (by omega)).mono ?_
            rintro e w4 ⟨A4, c4, vs4, rfl, ho4, hl4, hb4⟩
            have z4 := hb4.size
            go_wp2_with fail
            refine (rparts_some HP.out rfl hmd hdm ((hbb.below (hb4.mono z3w)).more (Nat.le_trans z3w z4)) (by omega)).mono ?_
            rintro e w5 ⟨A5, c5, vs5, rfl, ho5, hl5, hb5⟩
            have b35 := hb4.trans (hb5.mono z4)
            have x4 := own_below ho4 hb5
            have y4 := hl4.below hb5
            clear hb4 hb5 ho4 hl4
            go_wp2_with fail
            refine (same_r (b := true) (xs := frameL ls) (ys := frameL ls) (decide_eq_true rfl) rfl rfl ((Rd.own x2).below b35) ((Rd.own ho3).below b35) (own_max x2) (own_max ho3)).mono ?_
            rintro e w6 ⟨rfl, hb6⟩
            have b36 := b35.trans (hb6.mono b35.size)
            have r4 := (y4.rdb x4).2.below hb6
            have r5 := (hl5.rdb ho5).2.below hb6
            clear b35 hb6
            go_wp2_with fail
            refine (rows_r (b := true) (xs := pl) (ys := pl) (decide_eq_true rfl) rfl rfl r4 r5 (own_max x4) (own_max ho5)).mono ?_
            rintro e w7 ⟨rfl, hb7⟩
            have b37 := b36.trans (hb7.mono b36.size)
            have z37 := b37.size
            clear b36 hb7 r4 r5 y4 x4 hl5 ho5
            go_wp2_with fail
            refine (wparts_some hpf.out rfl hq.1 hq.2 (((Rd.own x2).below b37).more z37) (by omega)).mono ?_
            rintro e w8 ⟨A8, c8, vs, rfl, ho8, hl8, hb8⟩
            have b38 := b37.trans (hb8.mono z37)
            have bw8 : Below w.heap.size w w8 := b3.trans (b38.mono z3w)
            have r8 := (hl8.rdb ho8).2
            go_wp2_with fail
            refine (rows_r (b := true) (xs := ls) (ys := ls) (decide_eq_true rfl) rfl rfl r8 (ha.below bw8) (own_max ho8) M1.out).mono ?_
            rintro e w9 ⟨rfl, hb9⟩
            go_wp2_with fail
            go_ret
            exact ⟨rfl, bw8.trans (hb9.mono bw8.size)⟩
    · have h2' : (300 : Int) < (b.length : Int) := by omega
      have h1' : (ls.length : Int) ≤ 10 := by omega
      go_enter Try.func5, Try.ntmps5
      go_wp2_with fail
      refine (awake_any _).mono ?_
      rintro e w1 ⟨rfl, hb1⟩
      go_wp2_with fail
      go_ret
      exact ⟨rfl, hb1⟩
  · have h1' : (10 : Int) < (ls.length : Int) := by omega
    go_enter Try.func5, Try.ntmps5
    go_wp2_with fail
    refine (awake_any _).mono ?_
    rintro e w1 ⟨rfl, hb1⟩
    go_wp2_with fail
    go_ret
    exact ⟨rfl, hb1⟩
theorem wireFrames_own : ownKnob Try.prog.godebug = none := by kernel_rfl
theorem wireFrames_laid : laidOutB Try.prog = true := by kernel_rfl

set_option maxRecDepth 100000 in
theorem wireFrames_lifted (os : Os) (started : os.Started) (H : Type) (enc : TypeId × Value → H) :
    ReturnsInHanded {} Try.checked os 5 .any (Rows.wireFramesSpec.pre6 enc Try.prog Try.f5 Rows.wireFramesRow.domain false) (Rows.wireFramesSpec.post enc Try.prog Try.f5 false true false false) := by
  refine returnsInHanded_of_change (C := Try.checked) wireFrames_own started (by kernel_rfl) Try.func5
    (ChangeSpec.witness6 (enc := enc) (C := Try.checked) false ⟨#[], #[.slice none 0 0, .slice none 0 0], []⟩ 8 (by kernel_rfl) (by kernel_rfl) (by kernel_rfl) (by kernel_rfl)) ?_
  intro W base args ds gs before hval0 hW _ _
  have hval : ∀ (j : Nat) t v, Try.f5.params[j]? = some t → args[j]? = some v → Value.okWide Try.prog W .any base t v := hval0
  have hW' := hW
  obtain ⟨p, q, hA0, hV, rfl, hfz, hnd⟩ := hW
  have hA : DataW.TrodAll enc Try.prog W 0 (fun _ => true) true Try.f5.params.toList args.toList ds p := hA0
  rw [Try.params5] at hA hval
  obtain ⟨v0, vs0, d0, ds0, p0, q0, hargs, rfl, rfl, h0, r0⟩ := trodAll_cons hA
  obtain ⟨v1, vs1, d1, ds1, p1, q1, rfl, rfl, rfl, h1, r1⟩ := trodAll_cons r0
  obtain ⟨rfl, rfl, rfl⟩ := trodAll_nil r1
  obtain rfl : args = #[v0, v1] := by cases args; simp_all
  obtain ⟨rfl, rfl⟩ := trodVars_none hV
  obtain ⟨a0, n0, c0, rfl⟩ := okWide_slice Try.underlying31 (hval 0 31 v0 rfl rfl)
  have lt0 : ∀ x ∈ p0, x.block < W.heap.size := by obtain ⟨m, hm⟩ := h0; exact DataW.trod_lt m _ _ _ hm
  obtain ⟨l0, hl0, hc0, hm0, hr0⟩ := open_rows Try.underlying31 Try.underlying23 Try.underlying5 (by kernel_rfl) (by kernel_rfl) h0
  obtain ⟨a1, n1, c1, rfl⟩ := okWide_slice Try.underlying23 (hval 1 23 v1 rfl rfl)
  have lt1 : ∀ x ∈ p1, x.block < W.heap.size := by obtain ⟨m, hm⟩ := h1; exact DataW.trod_lt m _ _ _ hm
  obtain ⟨l1, hl1, hc1, hm1, hr1⟩ := open_bytes Try.underlying23 Try.underlying5 (by kernel_rfl) h1
  clear hA0 hval0
  refine (wireFrames_any W a0 n0 c0 l0 hl0 hc0 hm0 hr0 a1 n1 c1 l1 hl1 hc1 hm1 hr1).mono fun e W' ⟨he, bel⟩ => ?_
  subst he
  exact ⟨_, rfl, _, _, _, [], _, [], hW', trodAll_mk1 (shut_bool Try.underlying4 _), (trodAll_cons_mk (Below.trod wireFrames_laid (by kernel_rfl) (of_decide_eq_true (by kernel_rfl)) h0 bel lt0) (trodAll_cons_mk (Below.trod wireFrames_laid (by kernel_rfl) (of_decide_eq_true (by kernel_rfl)) h1 bel lt1) trodAll_mk0)), rfl, bel.frame _, fun h => by cases h⟩

theorem wireFrames_holds : Rows.WireFramesSaid :=
  OpenClaim.holds_of_wide 5 Try.f5 rfl rfl rfl rfl rfl rfl rfl ⟨rfl, rfl, rfl, rfl, rfl⟩ rfl rfl rfl rfl rfl (by kernel_rfl) Try.func5 (by kernel_rfl)
    (of_decide_eq_true (by kernel_rfl)) (by unfold Func.isWrapper; rw [if_neg (of_decide_eq_false (by kernel_rfl))]; exact ⟨rfl, rfl⟩)
    (fun os started H enc _ => wireFrames_lifted os started H enc)

#print axioms wireFrames_holds

end Go.Proofs.Ytafnpgjioehnjaa
