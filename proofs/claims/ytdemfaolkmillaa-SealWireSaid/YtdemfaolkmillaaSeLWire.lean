/-
  SealWire holds: of every key and every two lists of parts the law returns true, and its arguments read as they did.
-/
import Derived.Test.YtdemfaolkmillaaSeAwake
import Derived.Test.YtdemfaolkmillaaWiFrame
import Derived.Test.YtdemfaolkmillaaConvB
import Derived.Test.YtdemfaolkmillaaReach
import Derived.Test.YtdemfaolkmillaaOpen
import Derived.Test.YtdemfaolkmillaaOpenA
import Derived.ProofKit
import Derived.OpenShut
import Derived.ShutString
import Derived.ChangeOld
namespace Go.Proofs.Ytdemfaolkmillaa
open Go.RowKit Go.ChangeShapes Go.WideShapes Go.ChangeAt
attribute [local go_sem ↓] Go.wp_at_zero Go.wp_at_succ
theorem own_cap' {w : World} {base n c : Nat} {e : TypeId} {A : Option Addr} {xs : List Value} (h : w.ownsRow base e 1 (.slice A n c) n xs) : n ≤ c ∧ c ≤ maxLen := by
  rcases h.2 with ⟨h0, h1⟩ | ⟨g, cap, cur, hv, _, _, hc, hm, _⟩
  · injection h0 with _ _ e
    subst e; subst h1
    exact ⟨Nat.le_refl _, Nat.zero_le _⟩
  · injection hv with _ _ e
    subst e
    exact ⟨hc, hm⟩
theorem str_same {S T : ByteArray} {a b : List UInt8} (hS : S = ⟨a.toArray⟩) (hT : T = ⟨b.toArray⟩) : (S.toList == T.toList) = decide (a = b) := by
  have e1 : S.toList = a := by rw [hS, Lib.toList_data, List.toList_toArray]
  have e2 : T.toList = b := by rw [hT, Lib.toList_data, List.toList_toArray]
  rw [e1, e2, Bool.eq_iff_iff, beq_iff_eq, decide_eq_true_iff]
theorem frame_small {ls : List (List UInt8)} (h : ∀ l ∈ ls, l.length ≤ 60) : (Wi.frameL ls).length ≤ 62 * ls.length := by
  induction ls with
  | nil => simp [Wi.frameL]
  | cons l ls ih =>
    rw [show l :: ls = [l] ++ ls from rfl, Wi.frame_append, Wi.frame_one, List.length_append, List.length_append, Wi.putL_length]
    have h1 := h l (by simp)
    have h2 := ih (fun x hx => h x (by simp [hx]))
    simp
    omega
theorem take_same {a b : List (List UInt8)} {j : Nat} (ha : j < a.length) (hb : j < b.length) : decide (a.take (j + 1) = b.take (j + 1)) = (decide (a.take j = b.take j) && decide (a[j] = b[j])) := by
  rw [List.take_add_one, List.take_add_one, List.getElem?_eq_getElem ha, List.getElem?_eq_getElem hb, Option.toList_some, Option.toList_some, Bool.eq_iff_iff, Bool.and_eq_true, decide_eq_true_iff, decide_eq_true_iff, decide_eq_true_iff]
  constructor
  · intro h
    obtain ⟨h1, h2⟩ := List.append_inj' h rfl
    injection h2 with h2
    exact ⟨h1, h2⟩
  · rintro ⟨h1, h2⟩
    rw [h1, h2]
set_option maxHeartbeats 6400000 in
theorem sealWire_any (w : World) (k : List UInt8) (hk : k.length = 32) (A : Option Addr) (n c : Nat) (la : List (List UInt8)) (hl : la.length = n) (_hc : n ≤ c) (_hm : c ≤ maxLen) (hr : RdB w.heap.size w A la)
    (A' : Option Addr) (n' c' : Nat) (lb : List (List UInt8)) (hl' : lb.length = n') (_hc' : n' ≤ c') (_hm' : c' ≤ maxLen) (hr' : RdB w.heap.size w A' lb) :
    Calls Try.prog 12 #[.agg (bva k), .slice A n c, .slice A' n' c'] w (RetB (.bool true) w) := by
  have HL := Lib.hid hl
  have HR := Lib.hid hr
  have HL' := Lib.hid hl'
  have HR' := Lib.hid hr'
  have HK := Lib.hid hk
  have HI : Hid ((Try.prog.info? 30).map (·.size) = some (bva k).size) := by rw [bva_size, hk]; exact info33
  have hz : ∀ W, (zeroValue 34).run Try.prog W = .ok (.agg (bva zeroSum)) W := fun _ => by kernel_rfl
  have b1 : Blk (w.alloc (.cells (bva k) 30)) w.heap.size (bva k) 30 := heap_alloc_new _ _
  have bb : Below w.heap.size w (w.alloc (.cells (bva k) 30)) := (Below.refl _ _).alloc (Nat.le_refl _) _
  have B1 := Lib.hid b1
  have BB := Lib.hid bb
  clear hl hr hl' hr' hk b1 bb
  by_cases hn : n ≤ 6 ∧ n' ≤ 6
  · obtain ⟨hn1, hn2⟩ := hn
    have hd1 : decide (6 < (n : Int)) = false := by simp; omega
    have hd2 : decide (6 < (n' : Int)) = false := by simp; omega
    go_enter Try.func12, Try.ntmps12
    go_wp2_with fail
    refine (seAwake_any _).mono ?_
    rintro e w1 ⟨rfl, bw⟩
    have GK := Lib.hid (B1.out.below bw)
    have GB := Lib.hid (BB.out.trans (bw.mono BB.out.size))
    clear bw B1 BB
    go_wp2_with fail
    go_loopw [7] (fun i wr => ∃ j : Nat, j ≤ n ∧ i = .int .i64 j ∧ Hid (∀ l ∈ la.take j, l.length ≤ 60) ∧ Blk wr w.heap.size (bva k) 30 ∧ Below w.heap.size w wr) (fun i _ => n - (intOf i).toNat)
    case atStart => exact ⟨0, Nat.zero_le _, rfl, (fun l hl => by simp at hl), GK.out, GB.out⟩
    case round =>
      clear GK GB
      obtain ⟨j, hj, rfl, H60, RK, RB⟩ := hrel
      have GK := Lib.hid RK
      have GB := Lib.hid RB
      clear RK RB
      by_cases hlt : j < n
      · have hkl : j < la.length := by rw [HL.out]; exact hlt
        obtain ⟨ad, A6, c6, rfl, hadb, hcell0, _, _, _⟩ := RdB.at_ HR.out hkl
        obtain ⟨n6, hn6⟩ : ∃ n6, la[j].length = n6 := ⟨_, rfl⟩
        rw [hn6] at hcell0
        have hcell : wr.cell? (ad.add j) = some (.slice A6 n6 c6) := (GB.out.cell (by rw [add_block]; exact hadb)).trans hcell0
        have HN6 := Lib.hid hn6
        have HKL := Lib.hid hkl
        have k0 : (0 : Int) ≤ (j : Int) := by omega
        have k1 : (j : Int) < (n : Int) := by omega
        clear hn6 hcell0
        by_cases hbig : n6 ≤ 60
        · have hdb : decide (60 < (n6 : Int)) = false := by simp; omega
          have H61 : Hid (∀ l ∈ la.take (j + 1), l.length ≤ 60) := fun l hl => by
            rw [List.take_add_one, List.getElem?_eq_getElem HKL.out, Option.toList_some, List.mem_append, List.mem_singleton] at hl
            rcases hl with hl | hl
            · exact H60.out l hl
            · rw [hl, HN6.out]; exact hbig
          go_wp2_with fail
          go_roundw
          case rel => exact ⟨j + 1, by omega, by go_num, H61, GK.out, GB.out⟩
          case measure => (simp [intOf]; try omega)
        · have hdb : decide (60 < (n6 : Int)) = true := by simp; omega
          go_wp2_with fail
          go_ret
          exact ⟨rfl, GB.out⟩
      · obtain rfl : n = j := by omega
        have HA60 : Hid (∀ l ∈ la, l.length ≤ 60) := by
          have h := H60.out
          rw [List.take_of_length_le (by rw [HL.out]; exact Nat.le_refl _)] at h
          exact h
        clear H60
        go_wp2_with fail
        go_loopw [8] (fun i wr => ∃ j : Nat, j ≤ n' ∧ i = .int .i64 j ∧ Hid (∀ l ∈ lb.take j, l.length ≤ 60) ∧ Blk wr w.heap.size (bva k) 30 ∧ Below w.heap.size w wr) (fun i _ => n' - (intOf i).toNat)
        case atStart => exact ⟨0, Nat.zero_le _, rfl, (fun l hl => by simp at hl), GK.out, GB.out⟩
        case round =>
          clear GK GB
          obtain ⟨j, hj, rfl, H60, RK, RB⟩ := hrel
          have GK := Lib.hid RK
          have GB := Lib.hid RB
          clear RK RB
          by_cases hlt : j < n'
          · have hkl : j < lb.length := by rw [HL'.out]; exact hlt
            obtain ⟨ad, A6, c6, rfl, hadb, hcell0, _, _, _⟩ := RdB.at_ HR'.out hkl
            obtain ⟨n6, hn6⟩ : ∃ n6, lb[j].length = n6 := ⟨_, rfl⟩
            rw [hn6] at hcell0
            have hcell : wr.cell? (ad.add j) = some (.slice A6 n6 c6) := (GB.out.cell (by rw [add_block]; exact hadb)).trans hcell0
            have HN6 := Lib.hid hn6
            have HKL := Lib.hid hkl
            have k0 : (0 : Int) ≤ (j : Int) := by omega
            have k1 : (j : Int) < (n' : Int) := by omega
            clear hn6 hcell0
            by_cases hbig : n6 ≤ 60
            · have hdb : decide (60 < (n6 : Int)) = false := by simp; omega
              have H61 : Hid (∀ l ∈ lb.take (j + 1), l.length ≤ 60) := fun l hl => by
                rw [List.take_add_one, List.getElem?_eq_getElem HKL.out, Option.toList_some, List.mem_append, List.mem_singleton] at hl
                rcases hl with hl | hl
                · exact H60.out l hl
                · rw [hl, HN6.out]; exact hbig
              go_wp2_with fail
              go_roundw
              case rel => exact ⟨j + 1, by omega, by go_num, H61, GK.out, GB.out⟩
              case measure => (simp [intOf]; try omega)
            · have hdb : decide (60 < (n6 : Int)) = true := by simp; omega
              go_wp2_with fail
              go_ret
              exact ⟨rfl, GB.out⟩
          · obtain rfl : n' = j := by omega
            have HB60 : Hid (∀ l ∈ lb, l.length ≤ 60) := by
              have h := H60.out
              rw [List.take_of_length_le (by rw [HL'.out]; exact Nat.le_refl _)] at h
              exact h
            clear H60
            have HFA : Hid ((Wi.frameL la).length ≤ 372) := by show _ ≤ _; have := frame_small HA60.out; have := HL.out; omega
            have HFB : Hid ((Wi.frameL lb).length ≤ 372) := by show _ ≤ _; have := frame_small HB60.out; have := HL'.out; omega
            go_wp2_with fail
            refine (Wi.wframe_any A n c la _ HL.out (by unfold maxLen; omega) ((HR.out.below GB.out).more GB.out.size) (fun l hl => by have := HA60.out l hl; omega) (by have := HFA.out; omega)).mono ?_
            rintro e w2 ⟨Ax, nx, cx, rfl, ho, bw⟩
            have GK2 := Lib.hid (GK.out.below bw)
            have GB2 := Lib.hid (GB.out.trans (bw.mono GB.out.size))
            have OX := Lib.hid ho
            clear bw ho GK GB
            go_wp2_with fail
            refine (Wi.wframe_any A' n' c' lb _ HL'.out (by unfold maxLen; omega) ((HR'.out.below GB2.out).more GB2.out.size) (fun l hl => by have := HB60.out l hl; omega) (by have := HFB.out; omega)).mono ?_
            rintro e w3 ⟨Ay, ny, cy, rfl, ho, bw⟩
            have GK := Lib.hid (GK2.out.below bw)
            have GB := Lib.hid (GB2.out.trans (bw.mono GB2.out.size))
            have OX3 := own_below OX.out bw
            have HFX := Lib.hid (own_blen OX3)
            have HFY := Lib.hid (own_blen ho)
            obtain ⟨hcx, hmx⟩ := own_cap' OX3
            obtain ⟨hcy, hmy⟩ := own_cap' ho
            have HX := Lib.hid (Rd.own OX3)
            have HY := Lib.hid (Rd.own ho)
            clear bw ho GK2 GB2 OX OX3
            have HAL0 : Hid (((n : Int) == (n' : Int)) = (decide (n = n') && decide (la.take 0 = lb.take 0))) := by
              show _ = _
              rw [List.take_zero, List.take_zero, decide_eq_true rfl, Bool.and_true, Bool.eq_iff_iff, beq_iff_eq, decide_eq_true_iff]; omega
            obtain ⟨al0, hal0⟩ : ∃ al0, ((n : Int) == (n' : Int)) = al0 := ⟨_, rfl⟩
            have HAL : Hid (al0 = (decide (n = n') && decide (la.take 0 = lb.take 0))) := hal0.symm.trans HAL0.out
            clear HAL0
            go_wp2_with fail
            clear hal0
            have hnx : nx ≤ 372 := by rw [← HFX.out]; exact HFA.out
            have hny : ny ≤ 372 := by rw [← HFY.out]; exact HFB.out
            go_loopw [13, 14] (fun v i wr => ∃ (j : Nat) (al : Bool), j ≤ n ∧ j ≤ n' ∧ i = .int .i64 j ∧ v = .bool al ∧ Hid (al = (decide (n = n') && decide (la.take j = lb.take j))) ∧ Below w3.heap.size w3 wr) (fun _ i _ => n - (intOf i).toNat)
            case atStart => exact ⟨0, al0, Nat.zero_le _, Nat.zero_le _, rfl, rfl, HAL, Below.refl _ _⟩
            case round =>
              clear HAL
              obtain ⟨j, al, hj, hj', rfl, rfl, HAL, RB⟩ := hrel
              have YB := Lib.hid RB
              clear RB
              by_cases hlt : j < n ∧ j < n'
              · obtain ⟨hlt1, hlt2⟩ := hlt
                have hkl : j < la.length := by rw [HL.out]; exact hlt1
                have hkl' : j < lb.length := by rw [HL'.out]; exact hlt2
                have HWB := Lib.hid (GB.out.trans (YB.out.mono GB.out.size))
                obtain ⟨ad, A6, c6, rfl, hadb, hcell0, _, _, hrd⟩ := RdB.at_ HR.out hkl
                obtain ⟨ad', A7, c7, rfl, hadb', hcell0', _, _, hrd'⟩ := RdB.at_ HR'.out hkl'
                obtain ⟨b, hb⟩ : ∃ b, b = la[j] := ⟨_, rfl⟩
                obtain ⟨b', hb'⟩ : ∃ b', b' = lb[j] := ⟨_, rfl⟩
                rw [← hb] at hcell0 hrd
                rw [← hb'] at hcell0' hrd'
                obtain ⟨n6, hn6⟩ : ∃ n6, b.length = n6 := ⟨_, rfl⟩
                obtain ⟨n7, hn7⟩ : ∃ n7, b'.length = n7 := ⟨_, rfl⟩
                rw [hn6] at hcell0
                rw [hn7] at hcell0'
                have hcell : wr.cell? (ad.add j) = some (.slice A6 n6 c6) := (HWB.out.cell (by rw [add_block]; exact hadb)).trans hcell0
                have hcell' : wr.cell? (ad'.add j) = some (.slice A7 n7 c7) := (HWB.out.cell (by rw [add_block]; exact hadb')).trans hcell0'
                have RD := Lib.hid (hrd.below HWB.out)
                have RD' := Lib.hid (hrd'.below HWB.out)
                obtain ⟨SA, hSA⟩ : ∃ SA : ByteArray, SA = ⟨b.toArray⟩ := ⟨_, rfl⟩
                obtain ⟨SB, hSB⟩ : ∃ SB : ByteArray, SB = ⟨b'.toArray⟩ := ⟨_, rfl⟩
                have kca : ∀ q, (convert 28 9 (.slice A6 n6 c6)).run Try.prog (wr.drewN q) = .ok (.string SA) (wr.drewN q) := fun q => by
                  rw [hSA]; exact conv_rd (w := wr.drewN q) Try.underlying28 Try.underlying5 Try.underlying9 (RD.out.drewN q) hn6
                have kcb : ∀ q, (convert 28 9 (.slice A7 n7 c7)).run Try.prog (wr.drewN q) = .ok (.string SB) (wr.drewN q) := fun q => by
                  rw [hSB]; exact conv_rd (w := wr.drewN q) Try.underlying28 Try.underlying5 Try.underlying9 (RD'.out.drewN q) hn7
                obtain ⟨bb, hbb⟩ : ∃ bb, (SA.toList == SB.toList) = bb := ⟨_, rfl⟩
                have HBB : Hid (bb = decide (b = b')) := hbb.symm.trans (str_same hSA hSB)
                have HST : Hid (decide (la.take (j + 1) = lb.take (j + 1)) = (decide (la.take j = lb.take j) && bb)) := by
                  show _ = _
                  rw [take_same hkl hkl', HBB.out, hb, hb']
                have k0 : (0 : Int) ≤ (j : Int) := by omega
                have k1 : (j : Int) < (n : Int) := by omega
                have k2 : (j : Int) < (n' : Int) := by omega
                clear hSA hSB hb hb' hn6 hn7 hcell0 hcell0' hrd hrd'
                cases al with
                | true =>
                  go_wp2_with fail
                  go_quiet (fail)
                  go_wp2_with fail
                  refine ⟨⟨j + 1, bb, by omega, by omega, by go_num, rfl, ?_, below_drewN' YB.out _⟩, by (simp [intOf]; try omega)⟩
                  show _ = _
                  rw [HST.out]
                  have h := HAL.out
                  revert h
                  cases decide (n = n') <;> cases decide (la.take j = lb.take j) <;> cases bb <;> simp
                | false =>
                  go_wp2_with fail
                  go_quiet (fail)
                  go_wp2_with fail
                  refine ⟨⟨j + 1, false, by omega, by omega, by go_num, rfl, ?_, below_drewN' YB.out _⟩, by (simp [intOf]; try omega)⟩
                  show _ = _
                  rw [HST.out]
                  have h := HAL.out
                  revert h
                  cases decide (n = n') <;> cases decide (la.take j = lb.take j) <;> cases bb <;> simp
              · have HALF : Hid (al = decide (la = lb)) := by
                  show _ = _
                  rw [HAL.out]
                  by_cases h : n = n'
                  · have e1 : la.length ≤ j := by rw [HL.out]; omega
                    have e2 : lb.length ≤ j := by rw [HL'.out]; omega
                    rw [List.take_of_length_le e1, List.take_of_length_le e2, decide_eq_true h, Bool.true_and]
                  · rw [decide_eq_false h, Bool.false_and]
                    symm
                    rw [decide_eq_false_iff_not]
                    intro e
                    apply h
                    rw [← HL.out, ← HL'.out, e]
                obtain ⟨SX, hSX⟩ : ∃ SX : ByteArray, SX = ⟨(Wi.frameL la).toArray⟩ := ⟨_, rfl⟩
                obtain ⟨SY, hSY⟩ : ∃ SY : ByteArray, SY = ⟨(Wi.frameL lb).toArray⟩ := ⟨_, rfl⟩
                have kcx : (convert 28 9 (.slice Ax nx cx)).run Try.prog wr = .ok (.string SX) wr := by
                  rw [hSX]; exact conv_rd Try.underlying28 Try.underlying5 Try.underlying9 (HX.out.below YB.out) HFX.out
                have kcy : (convert 28 9 (.slice Ay ny cy)).run Try.prog wr = .ok (.string SY) wr := by
                  rw [hSY]; exact conv_rd Try.underlying28 Try.underlying5 Try.underlying9 (HY.out.below YB.out) HFY.out
                have hxy : (SX.toList == SY.toList) = al := by
                  rw [str_same hSX hSY, HALF.out, Bool.eq_iff_iff, decide_eq_true_iff, decide_eq_true_iff]
                  exact ⟨fun h => Wi.frame_inj la lb (fun l hl => by have := HA60.out l hl; omega) (fun l hl => by have := HB60.out l hl; omega) h, fun h => by rw [h]⟩
                have HS0 := Lib.hid (show Blk wr.drew w.heap.size (bva k) 30 ∧ Below w3.heap.size w3 wr.drew ∧ Below w.heap.size w wr.drew from ⟨(GK.out.below YB.out : Blk wr _ _ _), YB.out.drew, (GB.out.trans (YB.out.mono GB.out.size)).drew⟩)
                clear hSX hSY HAL YB
                cases al with
                | true =>
                  have hab : la = lb := of_decide_eq_true HALF.out.symm
                  obtain ⟨fx, hfx⟩ : ∃ fx, Wi.frameL la = fx := ⟨_, rfl⟩
                  rw [← hab, hfx] at HFY HY
                  rw [hfx] at HFX HX
                  obtain ⟨u, hu⟩ : ∃ u, sealL k fx = u := ⟨_, rfl⟩
                  have HU := Lib.hid hu
                  have heq := eq_sum u (by rw [← hu]; exact sealL_length k fx)
                  obtain ⟨s1, hs1⟩ : ∃ s1, s1 = zeroSum.set 0 1 := ⟨_, rfl⟩
                  have HS1 : Hid (s1.length = 16) := by show _ = _; rw [hs1]; rfl
                  have hb1 : (bva zeroSum).setIfInBounds 0 (.int .u8 1) = bva s1 := by rw [hs1]; exact bva_set zeroSum 0 1
                  have hzne : ¬ bva zeroSum = #[] := fun h => by have h1 := congrArg Array.size h; rw [bva_size, zeroSum_length] at h1; exact absurd h1 (by decide)
                  obtain ⟨v, hv⟩ : ∃ v, chainL s1 fx = v := ⟨_, rfl⟩
                  have HV := Lib.hid hv
                  have heqv := eq_sum v (by rw [← hv]; exact chainL_length s1 fx)
                  clear hab hfx hu hs1 hv HALF
                  by_cases h1 : j < n
                  · have k1 : (j : Int) < (n : Int) := by omega
                    have k2 : ¬ (j : Int) < (n' : Int) := by omega
                    go_wp2_with fail
                    refine wp_region_held_drew (S := fun w' => Blk w' w.heap.size (bva k) 30 ∧ Below w3.heap.size w3 w' ∧ Below w.heap.size w w') (by kernel_rfl) HS0.out (fun hh => ?_)
                    have HH := Lib.hid hh
                    clear hh
                    refine wpAnyH_take (i := 0) (v := ?vt0) rfl (by kernel_rfl) (by kernel_rfl) (by kernel_rfl) (fun _ _ _ h => h) (Or.inl ⟨by rfl, fun w' _ => ?yt0⟩) HH.out ?_
                    case yt0 => (go_simp; try with_reducible rfl)
                    refine wpAnyH_take (i := 1) (v := ?vt1) rfl (by kernel_rfl) (by kernel_rfl) (by kernel_rfl) (fun _ _ _ h => h) (Or.inl ⟨by rfl, fun w' _ => ?yt1⟩) HH.out ?_
                    case yt1 => (go_simp; try with_reducible rfl)
                    try simp only [List.getElem_toArray, List.getElem_cons_succ, List.getElem_cons_zero, Act.put, List.setIfInBounds_toArray, List.set_cons_zero, List.set_cons_succ]
                    refine wpAnyH_take (i := 2) (v := ?vt2) rfl (by kernel_rfl) (by kernel_rfl) (by kernel_rfl) (fun _ _ _ h => h) (Or.inl ⟨by rfl, fun w' _ => ?yt2⟩) HH.out ?_
                    case yt2 => (go_simp; try with_reducible rfl)
                    try simp only [List.getElem_toArray, List.getElem_cons_succ, List.getElem_cons_zero, Act.put, List.setIfInBounds_toArray, List.set_cons_zero, List.set_cons_succ]
                    refine wpAnyH_take (i := 3) (v := .agg (bva k)) rfl (by kernel_rfl) (by kernel_rfl) (by kernel_rfl) (fun _ _ _ h => h) (Or.inl ⟨by rfl, fun w' hw' => ?yt3⟩) HH.out ?_
                    case yt3 => exact exec_load 30 (.tmp 3) rfl rfl hw'.1 Try.underlying30 rfl HI.out
                    try simp only [List.getElem_toArray, List.getElem_cons_succ, List.getElem_cons_zero, Act.put, List.setIfInBounds_toArray, List.set_cons_zero, List.set_cons_succ]
                    refine wpAnyH_take (i := 4) (v := ?vt4) rfl (by kernel_rfl) (by kernel_rfl) (by kernel_rfl) (fun _ _ _ h => h) (Or.inl ⟨by rfl, fun w' _ => ?yt4⟩) HH.out ?_
                    case yt4 => (go_simp; try with_reducible rfl)
                    try simp only [List.getElem_toArray, List.getElem_cons_succ, List.getElem_cons_zero, Act.put, List.setIfInBounds_toArray, List.set_cons_zero, List.set_cons_succ]
                    refine wpAnyH_take (i := 6) (v := .agg (bva k)) rfl (by kernel_rfl) (by kernel_rfl) (by kernel_rfl) (fun _ _ _ h => h) (Or.inl ⟨by rfl, fun w' hw' => ?yt6⟩) HH.out ?_
                    case yt6 => exact exec_load 30 (.tmp 3) rfl rfl hw'.1 Try.underlying30 rfl HI.out
                    try simp only [List.getElem_toArray, List.getElem_cons_succ, List.getElem_cons_zero, Act.put, List.setIfInBounds_toArray, List.set_cons_zero, List.set_cons_succ]
                    refine wpAnyH_take (i := 7) (v := ?vt7) rfl (by kernel_rfl) (by kernel_rfl) (by kernel_rfl) (fun _ _ _ h => h) (Or.inl ⟨by rfl, fun w' _ => ?yt7⟩) HH.out ?_
                    case yt7 => (go_simp; try with_reducible rfl)
                    try simp only [List.getElem_toArray, List.getElem_cons_succ, List.getElem_cons_zero, Act.put, List.setIfInBounds_toArray, List.set_cons_zero, List.set_cons_succ]
                    refine wpAnyH_ready (rs := [5]) (by kernel_rfl) (by simp) (AllReadyH.cons rfl (fun K hK => ?_) AllReadyH.nil)
                    go_simp
                    refine (seal_any k HK.out Ax nx cx fx _ HFX.out hcx hmx ((HX.out.below HH.out.2.1).more HH.out.2.1.size) (by omega)).mono ?_
                    rintro e wv ⟨rfl, bw⟩
                    rw [HU.out]
                    go_simp
                    refine hK.out _ _ ⟨HH.out.1.below bw, HH.out.2.1.trans (bw.mono HH.out.2.1.size), HH.out.2.2.trans (bw.mono HH.out.2.2.size)⟩ (fun hh => ?_)
                    have HH' := Lib.hid hh
                    clear hh hK K HH bw
                    have HH := Lib.hid HH'.out
                    clear HH'
                    try simp only [List.getElem_toArray, List.getElem_cons_succ, List.getElem_cons_zero, Act.put, List.setIfInBounds_toArray, List.set_cons_zero, List.set_cons_succ]
                    refine wpAnyH_ready (rs := [8]) (by kernel_rfl) (by simp) (AllReadyH.cons rfl (fun K hK => ?_) AllReadyH.nil)
                    go_simp
                    refine (seal_any k HK.out Ay ny cy fx _ HFY.out hcy hmy ((HY.out.below HH.out.2.1).more HH.out.2.1.size) (by omega)).mono ?_
                    rintro e wv ⟨rfl, bw⟩
                    rw [HU.out]
                    go_simp
                    refine hK.out _ _ ⟨HH.out.1.below bw, HH.out.2.1.trans (bw.mono HH.out.2.1.size), HH.out.2.2.trans (bw.mono HH.out.2.2.size)⟩ (fun hh => ?_)
                    have HH' := Lib.hid hh
                    clear hh hK K HH bw
                    have HH := Lib.hid HH'.out
                    clear HH'
                    try simp only [List.getElem_toArray, List.getElem_cons_succ, List.getElem_cons_zero, Act.put, List.setIfInBounds_toArray, List.set_cons_zero, List.set_cons_succ]
                    refine wpAnyH_take (i := 9) (v := ?vt9) rfl (by kernel_rfl) (by kernel_rfl) (by kernel_rfl) (fun _ _ _ h => h) (Or.inl ⟨by rfl, fun w' _ => ?yt9⟩) HH.out ?_
                    case yt9 => (go_simp; try with_reducible rfl)
                    try simp only [List.getElem_toArray, List.getElem_cons_succ, List.getElem_cons_zero, Act.put, List.setIfInBounds_toArray, List.set_cons_zero, List.set_cons_succ]
                    refine wpAnyH_take (i := 10) (v := ?vt10) rfl (by kernel_rfl) (by kernel_rfl) (by kernel_rfl) (fun _ _ _ h => h) (Or.inl ⟨by rfl, fun w' _ => ?yt10⟩) HH.out ?_
                    case yt10 => (go_simp; try with_reducible rfl)
                    try simp only [List.getElem_toArray, List.getElem_cons_succ, List.getElem_cons_zero, Act.put, List.setIfInBounds_toArray, List.set_cons_zero, List.set_cons_succ]
                    try simp only [List.getElem_toArray, List.getElem_cons_succ, List.getElem_cons_zero, Act.put, List.setIfInBounds_toArray, List.set_cons_zero, List.set_cons_succ]
                    refine wpAnyH_take (i := 11) (v := .agg (bva s1)) rfl (by kernel_rfl) (by kernel_rfl) (by kernel_rfl) (fun _ _ _ h => h) (Or.inl ⟨by rfl, fun w' _ => ?yt11⟩) HH.out ?_
                    case yt11 => (go_simp; try with_reducible rfl)
                    try simp only [List.getElem_toArray, List.getElem_cons_succ, List.getElem_cons_zero, Act.put, List.setIfInBounds_toArray, List.set_cons_zero, List.set_cons_succ]
                    refine wpAnyH_take (i := 12) (v := ?vt12) rfl (by kernel_rfl) (by kernel_rfl) (by kernel_rfl) (fun _ _ _ h => h) (Or.inl ⟨by rfl, fun w' _ => ?yt12⟩) HH.out ?_
                    case yt12 => (go_simp; try with_reducible rfl)
                    try simp only [List.getElem_toArray, List.getElem_cons_succ, List.getElem_cons_zero, Act.put, List.setIfInBounds_toArray, List.set_cons_zero, List.set_cons_succ]
                    try simp only [List.getElem_toArray, List.getElem_cons_succ, List.getElem_cons_zero, Act.put, List.setIfInBounds_toArray, List.set_cons_zero, List.set_cons_succ]
                    refine wpAnyH_take (i := 14) (v := .agg (bva s1)) rfl (by kernel_rfl) (by kernel_rfl) (by kernel_rfl) (fun _ _ _ h => h) (Or.inl ⟨by rfl, fun w' _ => ?yt14⟩) HH.out ?_
                    case yt14 => (go_simp; try with_reducible rfl)
                    try simp only [List.getElem_toArray, List.getElem_cons_succ, List.getElem_cons_zero, Act.put, List.setIfInBounds_toArray, List.set_cons_zero, List.set_cons_succ]
                    refine wpAnyH_take (i := 15) (v := ?vt15) rfl (by kernel_rfl) (by kernel_rfl) (by kernel_rfl) (fun _ _ _ h => h) (Or.inl ⟨by rfl, fun w' _ => ?yt15⟩) HH.out ?_
                    case yt15 => (go_simp; try with_reducible rfl)
                    try simp only [List.getElem_toArray, List.getElem_cons_succ, List.getElem_cons_zero, Act.put, List.setIfInBounds_toArray, List.set_cons_zero, List.set_cons_succ]
                    refine wpAnyH_ready (rs := [13]) (by kernel_rfl) (by simp) (AllReadyH.cons rfl (fun K hK => ?_) AllReadyH.nil)
                    go_simp
                    refine (chain_any s1 HS1.out Ax nx cx fx _ HFX.out hcx hmx ((HX.out.below HH.out.2.1).more HH.out.2.1.size) (by omega)).mono ?_
                    rintro e wv ⟨rfl, bw⟩
                    rw [HV.out]
                    go_simp
                    refine hK.out _ _ ⟨HH.out.1.below bw, HH.out.2.1.trans (bw.mono HH.out.2.1.size), HH.out.2.2.trans (bw.mono HH.out.2.2.size)⟩ (fun hh => ?_)
                    have HH' := Lib.hid hh
                    clear hh hK K HH bw
                    have HH := Lib.hid HH'.out
                    clear HH'
                    try simp only [List.getElem_toArray, List.getElem_cons_succ, List.getElem_cons_zero, Act.put, List.setIfInBounds_toArray, List.set_cons_zero, List.set_cons_succ]
                    refine wpAnyH_ready (rs := [16]) (by kernel_rfl) (by simp) (AllReadyH.cons rfl (fun K hK => ?_) AllReadyH.nil)
                    go_simp
                    refine (chain_any s1 HS1.out Ay ny cy fx _ HFY.out hcy hmy ((HY.out.below HH.out.2.1).more HH.out.2.1.size) (by omega)).mono ?_
                    rintro e wv ⟨rfl, bw⟩
                    rw [HV.out]
                    go_simp
                    refine hK.out _ _ ⟨HH.out.1.below bw, HH.out.2.1.trans (bw.mono HH.out.2.1.size), HH.out.2.2.trans (bw.mono HH.out.2.2.size)⟩ (fun hh => ?_)
                    have HH' := Lib.hid hh
                    clear hh hK K HH bw
                    have HH := Lib.hid HH'.out
                    clear HH'
                    try simp only [List.getElem_toArray, List.getElem_cons_succ, List.getElem_cons_zero, Act.put, List.setIfInBounds_toArray, List.set_cons_zero, List.set_cons_succ]
                    refine wpAnyH_take (i := 17) (v := ?vt17) rfl (by kernel_rfl) (by kernel_rfl) (by kernel_rfl) (fun _ _ _ h => h) (Or.inl ⟨by rfl, fun w' _ => ?yt17⟩) HH.out ?_
                    case yt17 => (go_simp; try with_reducible rfl)
                    try simp only [List.getElem_toArray, List.getElem_cons_succ, List.getElem_cons_zero, Act.put, List.setIfInBounds_toArray, List.set_cons_zero, List.set_cons_succ]
                    refine wpAnyH_take (i := 18) (v := ?vt18) rfl (by kernel_rfl) (by kernel_rfl) (by kernel_rfl) (fun _ _ _ h => h) (Or.inl ⟨by rfl, fun w' _ => ?yt18⟩) HH.out ?_
                    case yt18 => (go_simp; try with_reducible rfl)
                    try simp only [List.getElem_toArray, List.getElem_cons_succ, List.getElem_cons_zero, Act.put, List.setIfInBounds_toArray, List.set_cons_zero, List.set_cons_succ]
                    refine wpAnyH_take (i := 19) (v := ?vt19) rfl (by kernel_rfl) (by kernel_rfl) (by kernel_rfl) (fun _ _ _ h => h) (Or.inl ⟨by rfl, fun w' _ => ?yt19⟩) HH.out ?_
                    case yt19 => (go_simp; try with_reducible rfl)
                    try simp only [List.getElem_toArray, List.getElem_cons_succ, List.getElem_cons_zero, Act.put, List.setIfInBounds_toArray, List.set_cons_zero, List.set_cons_succ]
                    refine wpAnyH_take (i := 20) (v := ?vt20) rfl (by kernel_rfl) (by kernel_rfl) (by kernel_rfl) (fun _ _ _ h => h) (Or.inl ⟨by rfl, fun w' _ => ?yt20⟩) HH.out ?_
                    case yt20 => (go_simp; try with_reducible rfl)
                    try simp only [List.getElem_toArray, List.getElem_cons_succ, List.getElem_cons_zero, Act.put, List.setIfInBounds_toArray, List.set_cons_zero, List.set_cons_succ]
                    refine wpAnyH_done (by kernel_rfl) ?_ _
                    go_wp2_with fail
                    go_ret
                    exact ⟨rfl, HH.out.2.2⟩
                  · have k1 : ¬ (j : Int) < (n : Int) := by omega
                    go_wp2_with fail
                    refine wp_region_held_drew (S := fun w' => Blk w' w.heap.size (bva k) 30 ∧ Below w3.heap.size w3 w' ∧ Below w.heap.size w w') (by kernel_rfl) HS0.out (fun hh => ?_)
                    have HH := Lib.hid hh
                    clear hh
                    refine wpAnyH_take (i := 0) (v := ?vt0) rfl (by kernel_rfl) (by kernel_rfl) (by kernel_rfl) (fun _ _ _ h => h) (Or.inl ⟨by rfl, fun w' _ => ?yt0⟩) HH.out ?_
                    case yt0 => (go_simp; try with_reducible rfl)
                    refine wpAnyH_take (i := 1) (v := ?vt1) rfl (by kernel_rfl) (by kernel_rfl) (by kernel_rfl) (fun _ _ _ h => h) (Or.inl ⟨by rfl, fun w' _ => ?yt1⟩) HH.out ?_
                    case yt1 => (go_simp; try with_reducible rfl)
                    try simp only [List.getElem_toArray, List.getElem_cons_succ, List.getElem_cons_zero, Act.put, List.setIfInBounds_toArray, List.set_cons_zero, List.set_cons_succ]
                    refine wpAnyH_take (i := 2) (v := ?vt2) rfl (by kernel_rfl) (by kernel_rfl) (by kernel_rfl) (fun _ _ _ h => h) (Or.inl ⟨by rfl, fun w' _ => ?yt2⟩) HH.out ?_
                    case yt2 => (go_simp; try with_reducible rfl)
                    try simp only [List.getElem_toArray, List.getElem_cons_succ, List.getElem_cons_zero, Act.put, List.setIfInBounds_toArray, List.set_cons_zero, List.set_cons_succ]
                    refine wpAnyH_take (i := 3) (v := .agg (bva k)) rfl (by kernel_rfl) (by kernel_rfl) (by kernel_rfl) (fun _ _ _ h => h) (Or.inl ⟨by rfl, fun w' hw' => ?yt3⟩) HH.out ?_
                    case yt3 => exact exec_load 30 (.tmp 3) rfl rfl hw'.1 Try.underlying30 rfl HI.out
                    try simp only [List.getElem_toArray, List.getElem_cons_succ, List.getElem_cons_zero, Act.put, List.setIfInBounds_toArray, List.set_cons_zero, List.set_cons_succ]
                    refine wpAnyH_take (i := 4) (v := ?vt4) rfl (by kernel_rfl) (by kernel_rfl) (by kernel_rfl) (fun _ _ _ h => h) (Or.inl ⟨by rfl, fun w' _ => ?yt4⟩) HH.out ?_
                    case yt4 => (go_simp; try with_reducible rfl)
                    try simp only [List.getElem_toArray, List.getElem_cons_succ, List.getElem_cons_zero, Act.put, List.setIfInBounds_toArray, List.set_cons_zero, List.set_cons_succ]
                    refine wpAnyH_take (i := 6) (v := .agg (bva k)) rfl (by kernel_rfl) (by kernel_rfl) (by kernel_rfl) (fun _ _ _ h => h) (Or.inl ⟨by rfl, fun w' hw' => ?yt6⟩) HH.out ?_
                    case yt6 => exact exec_load 30 (.tmp 3) rfl rfl hw'.1 Try.underlying30 rfl HI.out
                    try simp only [List.getElem_toArray, List.getElem_cons_succ, List.getElem_cons_zero, Act.put, List.setIfInBounds_toArray, List.set_cons_zero, List.set_cons_succ]
                    refine wpAnyH_take (i := 7) (v := ?vt7) rfl (by kernel_rfl) (by kernel_rfl) (by kernel_rfl) (fun _ _ _ h => h) (Or.inl ⟨by rfl, fun w' _ => ?yt7⟩) HH.out ?_
                    case yt7 => (go_simp; try with_reducible rfl)
                    try simp only [List.getElem_toArray, List.getElem_cons_succ, List.getElem_cons_zero, Act.put, List.setIfInBounds_toArray, List.set_cons_zero, List.set_cons_succ]
                    refine wpAnyH_ready (rs := [5]) (by kernel_rfl) (by simp) (AllReadyH.cons rfl (fun K hK => ?_) AllReadyH.nil)
                    go_simp
                    refine (seal_any k HK.out Ax nx cx fx _ HFX.out hcx hmx ((HX.out.below HH.out.2.1).more HH.out.2.1.size) (by omega)).mono ?_
                    rintro e wv ⟨rfl, bw⟩
                    rw [HU.out]
                    go_simp
                    refine hK.out _ _ ⟨HH.out.1.below bw, HH.out.2.1.trans (bw.mono HH.out.2.1.size), HH.out.2.2.trans (bw.mono HH.out.2.2.size)⟩ (fun hh => ?_)
                    have HH' := Lib.hid hh
                    clear hh hK K HH bw
                    have HH := Lib.hid HH'.out
                    clear HH'
                    try simp only [List.getElem_toArray, List.getElem_cons_succ, List.getElem_cons_zero, Act.put, List.setIfInBounds_toArray, List.set_cons_zero, List.set_cons_succ]
                    refine wpAnyH_ready (rs := [8]) (by kernel_rfl) (by simp) (AllReadyH.cons rfl (fun K hK => ?_) AllReadyH.nil)
                    go_simp
                    refine (seal_any k HK.out Ay ny cy fx _ HFY.out hcy hmy ((HY.out.below HH.out.2.1).more HH.out.2.1.size) (by omega)).mono ?_
                    rintro e wv ⟨rfl, bw⟩
                    rw [HU.out]
                    go_simp
                    refine hK.out _ _ ⟨HH.out.1.below bw, HH.out.2.1.trans (bw.mono HH.out.2.1.size), HH.out.2.2.trans (bw.mono HH.out.2.2.size)⟩ (fun hh => ?_)
                    have HH' := Lib.hid hh
                    clear hh hK K HH bw
                    have HH := Lib.hid HH'.out
                    clear HH'
                    try simp only [List.getElem_toArray, List.getElem_cons_succ, List.getElem_cons_zero, Act.put, List.setIfInBounds_toArray, List.set_cons_zero, List.set_cons_succ]
                    refine wpAnyH_take (i := 9) (v := ?vt9) rfl (by kernel_rfl) (by kernel_rfl) (by kernel_rfl) (fun _ _ _ h => h) (Or.inl ⟨by rfl, fun w' _ => ?yt9⟩) HH.out ?_
                    case yt9 => (go_simp; try with_reducible rfl)
                    try simp only [List.getElem_toArray, List.getElem_cons_succ, List.getElem_cons_zero, Act.put, List.setIfInBounds_toArray, List.set_cons_zero, List.set_cons_succ]
                    refine wpAnyH_take (i := 10) (v := ?vt10) rfl (by kernel_rfl) (by kernel_rfl) (by kernel_rfl) (fun _ _ _ h => h) (Or.inl ⟨by rfl, fun w' _ => ?yt10⟩) HH.out ?_
                    case yt10 => (go_simp; try with_reducible rfl)
                    try simp only [List.getElem_toArray, List.getElem_cons_succ, List.getElem_cons_zero, Act.put, List.setIfInBounds_toArray, List.set_cons_zero, List.set_cons_succ]
                    try simp only [List.getElem_toArray, List.getElem_cons_succ, List.getElem_cons_zero, Act.put, List.setIfInBounds_toArray, List.set_cons_zero, List.set_cons_succ]
                    refine wpAnyH_take (i := 11) (v := .agg (bva s1)) rfl (by kernel_rfl) (by kernel_rfl) (by kernel_rfl) (fun _ _ _ h => h) (Or.inl ⟨by rfl, fun w' _ => ?yt11⟩) HH.out ?_
                    case yt11 => (go_simp; try with_reducible rfl)
                    try simp only [List.getElem_toArray, List.getElem_cons_succ, List.getElem_cons_zero, Act.put, List.setIfInBounds_toArray, List.set_cons_zero, List.set_cons_succ]
                    refine wpAnyH_take (i := 12) (v := ?vt12) rfl (by kernel_rfl) (by kernel_rfl) (by kernel_rfl) (fun _ _ _ h => h) (Or.inl ⟨by rfl, fun w' _ => ?yt12⟩) HH.out ?_
                    case yt12 => (go_simp; try with_reducible rfl)
                    try simp only [List.getElem_toArray, List.getElem_cons_succ, List.getElem_cons_zero, Act.put, List.setIfInBounds_toArray, List.set_cons_zero, List.set_cons_succ]
                    try simp only [List.getElem_toArray, List.getElem_cons_succ, List.getElem_cons_zero, Act.put, List.setIfInBounds_toArray, List.set_cons_zero, List.set_cons_succ]
                    refine wpAnyH_take (i := 14) (v := .agg (bva s1)) rfl (by kernel_rfl) (by kernel_rfl) (by kernel_rfl) (fun _ _ _ h => h) (Or.inl ⟨by rfl, fun w' _ => ?yt14⟩) HH.out ?_
                    case yt14 => (go_simp; try with_reducible rfl)
                    try simp only [List.getElem_toArray, List.getElem_cons_succ, List.getElem_cons_zero, Act.put, List.setIfInBounds_toArray, List.set_cons_zero, List.set_cons_succ]
                    refine wpAnyH_take (i := 15) (v := ?vt15) rfl (by kernel_rfl) (by kernel_rfl) (by kernel_rfl) (fun _ _ _ h => h) (Or.inl ⟨by rfl, fun w' _ => ?yt15⟩) HH.out ?_
                    case yt15 => (go_simp; try with_reducible rfl)
                    try simp only [List.getElem_toArray, List.getElem_cons_succ, List.getElem_cons_zero, Act.put, List.setIfInBounds_toArray, List.set_cons_zero, List.set_cons_succ]
                    refine wpAnyH_ready (rs := [13]) (by kernel_rfl) (by simp) (AllReadyH.cons rfl (fun K hK => ?_) AllReadyH.nil)
                    go_simp
                    refine (chain_any s1 HS1.out Ax nx cx fx _ HFX.out hcx hmx ((HX.out.below HH.out.2.1).more HH.out.2.1.size) (by omega)).mono ?_
                    rintro e wv ⟨rfl, bw⟩
                    rw [HV.out]
                    go_simp
                    refine hK.out _ _ ⟨HH.out.1.below bw, HH.out.2.1.trans (bw.mono HH.out.2.1.size), HH.out.2.2.trans (bw.mono HH.out.2.2.size)⟩ (fun hh => ?_)
                    have HH' := Lib.hid hh
                    clear hh hK K HH bw
                    have HH := Lib.hid HH'.out
                    clear HH'
                    try simp only [List.getElem_toArray, List.getElem_cons_succ, List.getElem_cons_zero, Act.put, List.setIfInBounds_toArray, List.set_cons_zero, List.set_cons_succ]
                    refine wpAnyH_ready (rs := [16]) (by kernel_rfl) (by simp) (AllReadyH.cons rfl (fun K hK => ?_) AllReadyH.nil)
                    go_simp
                    refine (chain_any s1 HS1.out Ay ny cy fx _ HFY.out hcy hmy ((HY.out.below HH.out.2.1).more HH.out.2.1.size) (by omega)).mono ?_
                    rintro e wv ⟨rfl, bw⟩
                    rw [HV.out]
                    go_simp
                    refine hK.out _ _ ⟨HH.out.1.below bw, HH.out.2.1.trans (bw.mono HH.out.2.1.size), HH.out.2.2.trans (bw.mono HH.out.2.2.size)⟩ (fun hh => ?_)
                    have HH' := Lib.hid hh
                    clear hh hK K HH bw
                    have HH := Lib.hid HH'.out
                    clear HH'
                    try simp only [List.getElem_toArray, List.getElem_cons_succ, List.getElem_cons_zero, Act.put, List.setIfInBounds_toArray, List.set_cons_zero, List.set_cons_succ]
                    refine wpAnyH_take (i := 17) (v := ?vt17) rfl (by kernel_rfl) (by kernel_rfl) (by kernel_rfl) (fun _ _ _ h => h) (Or.inl ⟨by rfl, fun w' _ => ?yt17⟩) HH.out ?_
                    case yt17 => (go_simp; try with_reducible rfl)
                    try simp only [List.getElem_toArray, List.getElem_cons_succ, List.getElem_cons_zero, Act.put, List.setIfInBounds_toArray, List.set_cons_zero, List.set_cons_succ]
                    refine wpAnyH_take (i := 18) (v := ?vt18) rfl (by kernel_rfl) (by kernel_rfl) (by kernel_rfl) (fun _ _ _ h => h) (Or.inl ⟨by rfl, fun w' _ => ?yt18⟩) HH.out ?_
                    case yt18 => (go_simp; try with_reducible rfl)
                    try simp only [List.getElem_toArray, List.getElem_cons_succ, List.getElem_cons_zero, Act.put, List.setIfInBounds_toArray, List.set_cons_zero, List.set_cons_succ]
                    refine wpAnyH_take (i := 19) (v := ?vt19) rfl (by kernel_rfl) (by kernel_rfl) (by kernel_rfl) (fun _ _ _ h => h) (Or.inl ⟨by rfl, fun w' _ => ?yt19⟩) HH.out ?_
                    case yt19 => (go_simp; try with_reducible rfl)
                    try simp only [List.getElem_toArray, List.getElem_cons_succ, List.getElem_cons_zero, Act.put, List.setIfInBounds_toArray, List.set_cons_zero, List.set_cons_succ]
                    refine wpAnyH_take (i := 20) (v := ?vt20) rfl (by kernel_rfl) (by kernel_rfl) (by kernel_rfl) (fun _ _ _ h => h) (Or.inl ⟨by rfl, fun w' _ => ?yt20⟩) HH.out ?_
                    case yt20 => (go_simp; try with_reducible rfl)
                    try simp only [List.getElem_toArray, List.getElem_cons_succ, List.getElem_cons_zero, Act.put, List.setIfInBounds_toArray, List.set_cons_zero, List.set_cons_succ]
                    refine wpAnyH_done (by kernel_rfl) ?_ _
                    go_wp2_with fail
                    go_ret
                    exact ⟨rfl, HH.out.2.2⟩
                | false =>
                  clear HALF
                  by_cases h1 : j < n
                  · have k1 : (j : Int) < (n : Int) := by omega
                    have k2 : ¬ (j : Int) < (n' : Int) := by omega
                    go_wp2_with fail
                    refine wp_region_held_drew (S := fun w' => Blk w' w.heap.size (bva k) 30 ∧ Below w3.heap.size w3 w' ∧ Below w.heap.size w w') (by kernel_rfl) HS0.out (fun hh => ?_)
                    have HH := Lib.hid hh
                    clear hh
                    refine wpAnyH_take (i := 0) (v := ?vf0) rfl (by kernel_rfl) (by kernel_rfl) (by kernel_rfl) (fun _ _ _ h => h) (Or.inl ⟨by rfl, fun w' _ => ?yf0⟩) HH.out ?_
                    case yf0 => (go_simp; try with_reducible rfl)
                    refine wpAnyH_take (i := 1) (v := ?vf1) rfl (by kernel_rfl) (by kernel_rfl) (by kernel_rfl) (fun _ _ _ h => h) (Or.inl ⟨by rfl, fun w' _ => ?yf1⟩) HH.out ?_
                    case yf1 => (go_simp; try with_reducible rfl)
                    try simp only [List.getElem_toArray, List.getElem_cons_succ, List.getElem_cons_zero, Act.put, List.setIfInBounds_toArray, List.set_cons_zero, List.set_cons_succ]
                    refine wpAnyH_take (i := 2) (v := ?vf2) rfl (by kernel_rfl) (by kernel_rfl) (by kernel_rfl) (fun _ _ _ h => h) (Or.inl ⟨by rfl, fun w' _ => ?yf2⟩) HH.out ?_
                    case yf2 => (go_simp; try with_reducible rfl)
                    try simp only [List.getElem_toArray, List.getElem_cons_succ, List.getElem_cons_zero, Act.put, List.setIfInBounds_toArray, List.set_cons_zero, List.set_cons_succ]
                    refine wpAnyH_take (i := 3) (v := undef) rfl (by kernel_rfl) (by kernel_rfl) (by kernel_rfl) (fun _ _ _ h => h) (Or.inr ⟨by rfl, rfl⟩) HH.out ?_
                    try simp only [List.getElem_toArray, List.getElem_cons_succ, List.getElem_cons_zero, Act.put, List.setIfInBounds_toArray, List.set_cons_zero, List.set_cons_succ]
                    try simp only [List.getElem_toArray, List.getElem_cons_succ, List.getElem_cons_zero, Act.put, List.setIfInBounds_toArray, List.set_cons_zero, List.set_cons_succ]
                    refine wpAnyH_take (i := 4) (v := undef) rfl (by kernel_rfl) (by kernel_rfl) (by kernel_rfl) (fun _ _ _ h => h) (Or.inr ⟨by rfl, rfl⟩) HH.out ?_
                    try simp only [List.getElem_toArray, List.getElem_cons_succ, List.getElem_cons_zero, Act.put, List.setIfInBounds_toArray, List.set_cons_zero, List.set_cons_succ]
                    try simp only [List.getElem_toArray, List.getElem_cons_succ, List.getElem_cons_zero, Act.put, List.setIfInBounds_toArray, List.set_cons_zero, List.set_cons_succ]
                    refine wpAnyH_take (i := 5) (v := undef) rfl (by kernel_rfl) (by kernel_rfl) (by kernel_rfl) (fun _ _ _ h => h) (Or.inr ⟨by rfl, rfl⟩) HH.out ?_
                    try simp only [List.getElem_toArray, List.getElem_cons_succ, List.getElem_cons_zero, Act.put, List.setIfInBounds_toArray, List.set_cons_zero, List.set_cons_succ]
                    refine wpAnyH_take (i := 6) (v := undef) rfl (by kernel_rfl) (by kernel_rfl) (by kernel_rfl) (fun _ _ _ h => h) (Or.inr ⟨by rfl, rfl⟩) HH.out ?_
                    try simp only [List.getElem_toArray, List.getElem_cons_succ, List.getElem_cons_zero, Act.put, List.setIfInBounds_toArray, List.set_cons_zero, List.set_cons_succ]
                    try simp only [List.getElem_toArray, List.getElem_cons_succ, List.getElem_cons_zero, Act.put, List.setIfInBounds_toArray, List.set_cons_zero, List.set_cons_succ]
                    refine wpAnyH_take (i := 7) (v := undef) rfl (by kernel_rfl) (by kernel_rfl) (by kernel_rfl) (fun _ _ _ h => h) (Or.inr ⟨by rfl, rfl⟩) HH.out ?_
                    try simp only [List.getElem_toArray, List.getElem_cons_succ, List.getElem_cons_zero, Act.put, List.setIfInBounds_toArray, List.set_cons_zero, List.set_cons_succ]
                    try simp only [List.getElem_toArray, List.getElem_cons_succ, List.getElem_cons_zero, Act.put, List.setIfInBounds_toArray, List.set_cons_zero, List.set_cons_succ]
                    refine wpAnyH_take (i := 8) (v := undef) rfl (by kernel_rfl) (by kernel_rfl) (by kernel_rfl) (fun _ _ _ h => h) (Or.inr ⟨by rfl, rfl⟩) HH.out ?_
                    try simp only [List.getElem_toArray, List.getElem_cons_succ, List.getElem_cons_zero, Act.put, List.setIfInBounds_toArray, List.set_cons_zero, List.set_cons_succ]
                    refine wpAnyH_take (i := 9) (v := undef) rfl (by kernel_rfl) (by kernel_rfl) (by kernel_rfl) (fun _ _ _ h => h) (Or.inr ⟨by rfl, rfl⟩) HH.out ?_
                    try simp only [List.getElem_toArray, List.getElem_cons_succ, List.getElem_cons_zero, Act.put, List.setIfInBounds_toArray, List.set_cons_zero, List.set_cons_succ]
                    try simp only [List.getElem_toArray, List.getElem_cons_succ, List.getElem_cons_zero, Act.put, List.setIfInBounds_toArray, List.set_cons_zero, List.set_cons_succ]
                    refine wpAnyH_take (i := 10) (v := undef) rfl (by kernel_rfl) (by kernel_rfl) (by kernel_rfl) (fun _ _ _ h => h) (Or.inr ⟨by rfl, rfl⟩) HH.out ?_
                    try simp only [List.getElem_toArray, List.getElem_cons_succ, List.getElem_cons_zero, Act.put, List.setIfInBounds_toArray, List.set_cons_zero, List.set_cons_succ]
                    try simp only [List.getElem_toArray, List.getElem_cons_succ, List.getElem_cons_zero, Act.put, List.setIfInBounds_toArray, List.set_cons_zero, List.set_cons_succ]
                    refine wpAnyH_take (i := 11) (v := undef) rfl (by kernel_rfl) (by kernel_rfl) (by kernel_rfl) (fun _ _ _ h => h) (Or.inr ⟨by rfl, rfl⟩) HH.out ?_
                    try simp only [List.getElem_toArray, List.getElem_cons_succ, List.getElem_cons_zero, Act.put, List.setIfInBounds_toArray, List.set_cons_zero, List.set_cons_succ]
                    refine wpAnyH_take (i := 12) (v := undef) rfl (by kernel_rfl) (by kernel_rfl) (by kernel_rfl) (fun _ _ _ h => h) (Or.inr ⟨by rfl, rfl⟩) HH.out ?_
                    try simp only [List.getElem_toArray, List.getElem_cons_succ, List.getElem_cons_zero, Act.put, List.setIfInBounds_toArray, List.set_cons_zero, List.set_cons_succ]
                    try simp only [List.getElem_toArray, List.getElem_cons_succ, List.getElem_cons_zero, Act.put, List.setIfInBounds_toArray, List.set_cons_zero, List.set_cons_succ]
                    refine wpAnyH_take (i := 13) (v := undef) rfl (by kernel_rfl) (by kernel_rfl) (by kernel_rfl) (fun _ _ _ h => h) (Or.inr ⟨by rfl, rfl⟩) HH.out ?_
                    try simp only [List.getElem_toArray, List.getElem_cons_succ, List.getElem_cons_zero, Act.put, List.setIfInBounds_toArray, List.set_cons_zero, List.set_cons_succ]
                    try simp only [List.getElem_toArray, List.getElem_cons_succ, List.getElem_cons_zero, Act.put, List.setIfInBounds_toArray, List.set_cons_zero, List.set_cons_succ]
                    refine wpAnyH_take (i := 14) (v := undef) rfl (by kernel_rfl) (by kernel_rfl) (by kernel_rfl) (fun _ _ _ h => h) (Or.inr ⟨by rfl, rfl⟩) HH.out ?_
                    try simp only [List.getElem_toArray, List.getElem_cons_succ, List.getElem_cons_zero, Act.put, List.setIfInBounds_toArray, List.set_cons_zero, List.set_cons_succ]
                    refine wpAnyH_take (i := 15) (v := undef) rfl (by kernel_rfl) (by kernel_rfl) (by kernel_rfl) (fun _ _ _ h => h) (Or.inr ⟨by rfl, rfl⟩) HH.out ?_
                    try simp only [List.getElem_toArray, List.getElem_cons_succ, List.getElem_cons_zero, Act.put, List.setIfInBounds_toArray, List.set_cons_zero, List.set_cons_succ]
                    try simp only [List.getElem_toArray, List.getElem_cons_succ, List.getElem_cons_zero, Act.put, List.setIfInBounds_toArray, List.set_cons_zero, List.set_cons_succ]
                    refine wpAnyH_take (i := 16) (v := undef) rfl (by kernel_rfl) (by kernel_rfl) (by kernel_rfl) (fun _ _ _ h => h) (Or.inr ⟨by rfl, rfl⟩) HH.out ?_
                    try simp only [List.getElem_toArray, List.getElem_cons_succ, List.getElem_cons_zero, Act.put, List.setIfInBounds_toArray, List.set_cons_zero, List.set_cons_succ]
                    try simp only [List.getElem_toArray, List.getElem_cons_succ, List.getElem_cons_zero, Act.put, List.setIfInBounds_toArray, List.set_cons_zero, List.set_cons_succ]
                    refine wpAnyH_take (i := 17) (v := undef) rfl (by kernel_rfl) (by kernel_rfl) (by kernel_rfl) (fun _ _ _ h => h) (Or.inr ⟨by rfl, rfl⟩) HH.out ?_
                    try simp only [List.getElem_toArray, List.getElem_cons_succ, List.getElem_cons_zero, Act.put, List.setIfInBounds_toArray, List.set_cons_zero, List.set_cons_succ]
                    refine wpAnyH_take (i := 18) (v := undef) rfl (by kernel_rfl) (by kernel_rfl) (by kernel_rfl) (fun _ _ _ h => h) (Or.inr ⟨by rfl, rfl⟩) HH.out ?_
                    try simp only [List.getElem_toArray, List.getElem_cons_succ, List.getElem_cons_zero, Act.put, List.setIfInBounds_toArray, List.set_cons_zero, List.set_cons_succ]
                    refine wpAnyH_take (i := 19) (v := ?vf19) rfl (by kernel_rfl) (by kernel_rfl) (by kernel_rfl) (fun _ _ _ h => h) (Or.inl ⟨by rfl, fun w' _ => ?yf19⟩) HH.out ?_
                    case yf19 => (go_simp; try with_reducible rfl)
                    try simp only [List.getElem_toArray, List.getElem_cons_succ, List.getElem_cons_zero, Act.put, List.setIfInBounds_toArray, List.set_cons_zero, List.set_cons_succ]
                    refine wpAnyH_take (i := 20) (v := ?vf20) rfl (by kernel_rfl) (by kernel_rfl) (by kernel_rfl) (fun _ _ _ h => h) (Or.inl ⟨by rfl, fun w' _ => ?yf20⟩) HH.out ?_
                    case yf20 => (go_simp; try with_reducible rfl)
                    try simp only [List.getElem_toArray, List.getElem_cons_succ, List.getElem_cons_zero, Act.put, List.setIfInBounds_toArray, List.set_cons_zero, List.set_cons_succ]
                    refine wpAnyH_done (by kernel_rfl) ?_ _
                    go_wp2_with fail
                    go_ret
                    exact ⟨rfl, HH.out.2.2⟩
                  · have k1 : ¬ (j : Int) < (n : Int) := by omega
                    go_wp2_with fail
                    refine wp_region_held_drew (S := fun w' => Blk w' w.heap.size (bva k) 30 ∧ Below w3.heap.size w3 w' ∧ Below w.heap.size w w') (by kernel_rfl) HS0.out (fun hh => ?_)
                    have HH := Lib.hid hh
                    clear hh
                    refine wpAnyH_take (i := 0) (v := ?vf0) rfl (by kernel_rfl) (by kernel_rfl) (by kernel_rfl) (fun _ _ _ h => h) (Or.inl ⟨by rfl, fun w' _ => ?yf0⟩) HH.out ?_
                    case yf0 => (go_simp; try with_reducible rfl)
                    refine wpAnyH_take (i := 1) (v := ?vf1) rfl (by kernel_rfl) (by kernel_rfl) (by kernel_rfl) (fun _ _ _ h => h) (Or.inl ⟨by rfl, fun w' _ => ?yf1⟩) HH.out ?_
                    case yf1 => (go_simp; try with_reducible rfl)
                    try simp only [List.getElem_toArray, List.getElem_cons_succ, List.getElem_cons_zero, Act.put, List.setIfInBounds_toArray, List.set_cons_zero, List.set_cons_succ]
                    refine wpAnyH_take (i := 2) (v := ?vf2) rfl (by kernel_rfl) (by kernel_rfl) (by kernel_rfl) (fun _ _ _ h => h) (Or.inl ⟨by rfl, fun w' _ => ?yf2⟩) HH.out ?_
                    case yf2 => (go_simp; try with_reducible rfl)
                    try simp only [List.getElem_toArray, List.getElem_cons_succ, List.getElem_cons_zero, Act.put, List.setIfInBounds_toArray, List.set_cons_zero, List.set_cons_succ]
                    refine wpAnyH_take (i := 3) (v := undef) rfl (by kernel_rfl) (by kernel_rfl) (by kernel_rfl) (fun _ _ _ h => h) (Or.inr ⟨by rfl, rfl⟩) HH.out ?_
                    try simp only [List.getElem_toArray, List.getElem_cons_succ, List.getElem_cons_zero, Act.put, List.setIfInBounds_toArray, List.set_cons_zero, List.set_cons_succ]
                    try simp only [List.getElem_toArray, List.getElem_cons_succ, List.getElem_cons_zero, Act.put, List.setIfInBounds_toArray, List.set_cons_zero, List.set_cons_succ]
                    refine wpAnyH_take (i := 4) (v := undef) rfl (by kernel_rfl) (by kernel_rfl) (by kernel_rfl) (fun _ _ _ h => h) (Or.inr ⟨by rfl, rfl⟩) HH.out ?_
                    try simp only [List.getElem_toArray, List.getElem_cons_succ, List.getElem_cons_zero, Act.put, List.setIfInBounds_toArray, List.set_cons_zero, List.set_cons_succ]
                    try simp only [List.getElem_toArray, List.getElem_cons_succ, List.getElem_cons_zero, Act.put, List.setIfInBounds_toArray, List.set_cons_zero, List.set_cons_succ]
                    refine wpAnyH_take (i := 5) (v := undef) rfl (by kernel_rfl) (by kernel_rfl) (by kernel_rfl) (fun _ _ _ h => h) (Or.inr ⟨by rfl, rfl⟩) HH.out ?_
                    try simp only [List.getElem_toArray, List.getElem_cons_succ, List.getElem_cons_zero, Act.put, List.setIfInBounds_toArray, List.set_cons_zero, List.set_cons_succ]
                    refine wpAnyH_take (i := 6) (v := undef) rfl (by kernel_rfl) (by kernel_rfl) (by kernel_rfl) (fun _ _ _ h => h) (Or.inr ⟨by rfl, rfl⟩) HH.out ?_
                    try simp only [List.getElem_toArray, List.getElem_cons_succ, List.getElem_cons_zero, Act.put, List.setIfInBounds_toArray, List.set_cons_zero, List.set_cons_succ]
                    try simp only [List.getElem_toArray, List.getElem_cons_succ, List.getElem_cons_zero, Act.put, List.setIfInBounds_toArray, List.set_cons_zero, List.set_cons_succ]
                    refine wpAnyH_take (i := 7) (v := undef) rfl (by kernel_rfl) (by kernel_rfl) (by kernel_rfl) (fun _ _ _ h => h) (Or.inr ⟨by rfl, rfl⟩) HH.out ?_
                    try simp only [List.getElem_toArray, List.getElem_cons_succ, List.getElem_cons_zero, Act.put, List.setIfInBounds_toArray, List.set_cons_zero, List.set_cons_succ]
                    try simp only [List.getElem_toArray, List.getElem_cons_succ, List.getElem_cons_zero, Act.put, List.setIfInBounds_toArray, List.set_cons_zero, List.set_cons_succ]
                    refine wpAnyH_take (i := 8) (v := undef) rfl (by kernel_rfl) (by kernel_rfl) (by kernel_rfl) (fun _ _ _ h => h) (Or.inr ⟨by rfl, rfl⟩) HH.out ?_
                    try simp only [List.getElem_toArray, List.getElem_cons_succ, List.getElem_cons_zero, Act.put, List.setIfInBounds_toArray, List.set_cons_zero, List.set_cons_succ]
                    refine wpAnyH_take (i := 9) (v := undef) rfl (by kernel_rfl) (by kernel_rfl) (by kernel_rfl) (fun _ _ _ h => h) (Or.inr ⟨by rfl, rfl⟩) HH.out ?_
                    try simp only [List.getElem_toArray, List.getElem_cons_succ, List.getElem_cons_zero, Act.put, List.setIfInBounds_toArray, List.set_cons_zero, List.set_cons_succ]
                    try simp only [List.getElem_toArray, List.getElem_cons_succ, List.getElem_cons_zero, Act.put, List.setIfInBounds_toArray, List.set_cons_zero, List.set_cons_succ]
                    refine wpAnyH_take (i := 10) (v := undef) rfl (by kernel_rfl) (by kernel_rfl) (by kernel_rfl) (fun _ _ _ h => h) (Or.inr ⟨by rfl, rfl⟩) HH.out ?_
                    try simp only [List.getElem_toArray, List.getElem_cons_succ, List.getElem_cons_zero, Act.put, List.setIfInBounds_toArray, List.set_cons_zero, List.set_cons_succ]
                    try simp only [List.getElem_toArray, List.getElem_cons_succ, List.getElem_cons_zero, Act.put, List.setIfInBounds_toArray, List.set_cons_zero, List.set_cons_succ]
                    refine wpAnyH_take (i := 11) (v := undef) rfl (by kernel_rfl) (by kernel_rfl) (by kernel_rfl) (fun _ _ _ h => h) (Or.inr ⟨by rfl, rfl⟩) HH.out ?_
                    try simp only [List.getElem_toArray, List.getElem_cons_succ, List.getElem_cons_zero, Act.put, List.setIfInBounds_toArray, List.set_cons_zero, List.set_cons_succ]
                    refine wpAnyH_take (i := 12) (v := undef) rfl (by kernel_rfl) (by kernel_rfl) (by kernel_rfl) (fun _ _ _ h => h) (Or.inr ⟨by rfl, rfl⟩) HH.out ?_
                    try simp only [List.getElem_toArray, List.getElem_cons_succ, List.getElem_cons_zero, Act.put, List.setIfInBounds_toArray, List.set_cons_zero, List.set_cons_succ]
                    try simp only [List.getElem_toArray, List.getElem_cons_succ, List.getElem_cons_zero, Act.put, List.setIfInBounds_toArray, List.set_cons_zero, List.set_cons_succ]
                    refine wpAnyH_take (i := 13) (v := undef) rfl (by kernel_rfl) (by kernel_rfl) (by kernel_rfl) (fun _ _ _ h => h) (Or.inr ⟨by rfl, rfl⟩) HH.out ?_
                    try simp only [List.getElem_toArray, List.getElem_cons_succ, List.getElem_cons_zero, Act.put, List.setIfInBounds_toArray, List.set_cons_zero, List.set_cons_succ]
                    try simp only [List.getElem_toArray, List.getElem_cons_succ, List.getElem_cons_zero, Act.put, List.setIfInBounds_toArray, List.set_cons_zero, List.set_cons_succ]
                    refine wpAnyH_take (i := 14) (v := undef) rfl (by kernel_rfl) (by kernel_rfl) (by kernel_rfl) (fun _ _ _ h => h) (Or.inr ⟨by rfl, rfl⟩) HH.out ?_
                    try simp only [List.getElem_toArray, List.getElem_cons_succ, List.getElem_cons_zero, Act.put, List.setIfInBounds_toArray, List.set_cons_zero, List.set_cons_succ]
                    refine wpAnyH_take (i := 15) (v := undef) rfl (by kernel_rfl) (by kernel_rfl) (by kernel_rfl) (fun _ _ _ h => h) (Or.inr ⟨by rfl, rfl⟩) HH.out ?_
                    try simp only [List.getElem_toArray, List.getElem_cons_succ, List.getElem_cons_zero, Act.put, List.setIfInBounds_toArray, List.set_cons_zero, List.set_cons_succ]
                    try simp only [List.getElem_toArray, List.getElem_cons_succ, List.getElem_cons_zero, Act.put, List.setIfInBounds_toArray, List.set_cons_zero, List.set_cons_succ]
                    refine wpAnyH_take (i := 16) (v := undef) rfl (by kernel_rfl) (by kernel_rfl) (by kernel_rfl) (fun _ _ _ h => h) (Or.inr ⟨by rfl, rfl⟩) HH.out ?_
                    try simp only [List.getElem_toArray, List.getElem_cons_succ, List.getElem_cons_zero, Act.put, List.setIfInBounds_toArray, List.set_cons_zero, List.set_cons_succ]
                    try simp only [List.getElem_toArray, List.getElem_cons_succ, List.getElem_cons_zero, Act.put, List.setIfInBounds_toArray, List.set_cons_zero, List.set_cons_succ]
                    refine wpAnyH_take (i := 17) (v := undef) rfl (by kernel_rfl) (by kernel_rfl) (by kernel_rfl) (fun _ _ _ h => h) (Or.inr ⟨by rfl, rfl⟩) HH.out ?_
                    try simp only [List.getElem_toArray, List.getElem_cons_succ, List.getElem_cons_zero, Act.put, List.setIfInBounds_toArray, List.set_cons_zero, List.set_cons_succ]
                    refine wpAnyH_take (i := 18) (v := undef) rfl (by kernel_rfl) (by kernel_rfl) (by kernel_rfl) (fun _ _ _ h => h) (Or.inr ⟨by rfl, rfl⟩) HH.out ?_
                    try simp only [List.getElem_toArray, List.getElem_cons_succ, List.getElem_cons_zero, Act.put, List.setIfInBounds_toArray, List.set_cons_zero, List.set_cons_succ]
                    refine wpAnyH_take (i := 19) (v := ?vf19) rfl (by kernel_rfl) (by kernel_rfl) (by kernel_rfl) (fun _ _ _ h => h) (Or.inl ⟨by rfl, fun w' _ => ?yf19⟩) HH.out ?_
                    case yf19 => (go_simp; try with_reducible rfl)
                    try simp only [List.getElem_toArray, List.getElem_cons_succ, List.getElem_cons_zero, Act.put, List.setIfInBounds_toArray, List.set_cons_zero, List.set_cons_succ]
                    refine wpAnyH_take (i := 20) (v := ?vf20) rfl (by kernel_rfl) (by kernel_rfl) (by kernel_rfl) (fun _ _ _ h => h) (Or.inl ⟨by rfl, fun w' _ => ?yf20⟩) HH.out ?_
                    case yf20 => (go_simp; try with_reducible rfl)
                    try simp only [List.getElem_toArray, List.getElem_cons_succ, List.getElem_cons_zero, Act.put, List.setIfInBounds_toArray, List.set_cons_zero, List.set_cons_succ]
                    refine wpAnyH_done (by kernel_rfl) ?_ _
                    go_wp2_with fail
                    go_ret
                    exact ⟨rfl, HH.out.2.2⟩

  · go_enter Try.func12, Try.ntmps12
    go_wp2_with fail
    refine (seAwake_any _).mono ?_
    rintro e w1 ⟨rfl, bw⟩
    have CB := Lib.hid (BB.out.trans (bw.mono BB.out.size))
    clear bw B1 BB
    by_cases h1 : n ≤ 6
    · have hd1 : decide (6 < (n : Int)) = false := by simp; omega
      have hd2 : decide (6 < (n' : Int)) = true := by simp; omega
      go_wp2_with fail
      go_ret
      exact ⟨rfl, CB.out⟩
    · have hd1 : decide (6 < (n : Int)) = true := by simp; omega
      go_wp2_with fail
      go_ret
      exact ⟨rfl, CB.out⟩
theorem sealWire_own : ownKnob Try.prog.godebug = none := by kernel_rfl
theorem sealWire_laid : laidOutB Try.prog = true := by kernel_rfl

set_option maxRecDepth 100000 in
theorem sealWire_lifted (os : Os) (started : os.Started) (H : Type) (enc : TypeId × Value → H) :
    ReturnsInHanded {} Try.checked os 12 .any (Rows.sealWireSpec.pre6 enc Try.prog Try.f12 Rows.sealWireRow.domain false) (Rows.sealWireSpec.post enc Try.prog Try.f12 false true false false) := by
  refine returnsInHanded_of_change (C := Try.checked) sealWire_own started (by kernel_rfl) Try.func12
    (ChangeSpec.witness6 (enc := enc) (C := Try.checked) false ⟨#[], #[.agg #[.int .u8 0, .int .u8 0, .int .u8 0, .int .u8 0, .int .u8 0, .int .u8 0, .int .u8 0, .int .u8 0, .int .u8 0, .int .u8 0, .int .u8 0, .int .u8 0, .int .u8 0, .int .u8 0, .int .u8 0, .int .u8 0, .int .u8 0, .int .u8 0, .int .u8 0, .int .u8 0, .int .u8 0, .int .u8 0, .int .u8 0, .int .u8 0, .int .u8 0, .int .u8 0, .int .u8 0, .int .u8 0, .int .u8 0, .int .u8 0, .int .u8 0, .int .u8 0], .slice none 0 0, .slice none 0 0], []⟩ 8 (by kernel_rfl) (by kernel_rfl) (by kernel_rfl) (by kernel_rfl)) ?_
  intro W base args ds gs before hval0 hW _ _
  have hval : ∀ (j : Nat) t v, Try.f12.params[j]? = some t → args[j]? = some v → Value.okWide Try.prog W .any base t v := hval0
  have hW' := hW
  obtain ⟨p, q, hA0, hV, rfl, hfz, hnd⟩ := hW
  have hA : DataW.TrodAll enc Try.prog W 0 (fun _ => true) true Try.f12.params.toList args.toList ds p := hA0
  rw [Try.params12] at hA hval
  obtain ⟨v0, vs0, d0, ds0, p0, q0, hargs, rfl, rfl, h0, r0⟩ := trodAll_cons hA
  obtain ⟨v1, vs1, d1, ds1, p1, q1, rfl, rfl, rfl, h1, r1⟩ := trodAll_cons r0
  obtain ⟨v2, vs2, d2, ds2, p2, q2, rfl, rfl, rfl, h2, r2⟩ := trodAll_cons r1
  obtain ⟨rfl, rfl, rfl⟩ := trodAll_nil r2
  obtain rfl : args = #[v0, v1, v2] := by cases args; simp_all
  obtain ⟨rfl, rfl⟩ := trodVars_none hV
  have lt0 : ∀ x ∈ p0, x.block < W.heap.size := by obtain ⟨m, hm⟩ := h0; exact DataW.trod_lt m _ _ _ hm
  obtain ⟨l0, hl0, rfl⟩ := open_u8s Try.underlying30 Try.underlying5 (by kernel_rfl) (by kernel_rfl) (hval 0 30 v0 rfl rfl) h0
  obtain ⟨a1, n1, c1, rfl⟩ := okWide_slice Try.underlying40 (hval 1 40 v1 rfl rfl)
  have lt1 : ∀ x ∈ p1, x.block < W.heap.size := by obtain ⟨m, hm⟩ := h1; exact DataW.trod_lt m _ _ _ hm
  obtain ⟨l1, hl1, hc1, hm1, hr1⟩ := open_rows Try.underlying40 Try.underlying28 Try.underlying5 (by kernel_rfl) (by kernel_rfl) h1
  obtain ⟨a2, n2, c2, rfl⟩ := okWide_slice Try.underlying40 (hval 2 40 v2 rfl rfl)
  have lt2 : ∀ x ∈ p2, x.block < W.heap.size := by obtain ⟨m, hm⟩ := h2; exact DataW.trod_lt m _ _ _ hm
  obtain ⟨l2, hl2, hc2, hm2, hr2⟩ := open_rows Try.underlying40 Try.underlying28 Try.underlying5 (by kernel_rfl) (by kernel_rfl) h2
  clear hA0 hval0
  refine (sealWire_any W l0 hl0 a1 n1 c1 l1 hl1 hc1 hm1 hr1 a2 n2 c2 l2 hl2 hc2 hm2 hr2).mono fun e W' ⟨he, bel⟩ => ?_
  subst he
  exact ⟨_, rfl, _, _, _, [], _, [], hW', trodAll_mk1 (shut_bool Try.underlying4 _), (trodAll_cons_mk (Below.trod sealWire_laid (by kernel_rfl) (of_decide_eq_true (by kernel_rfl)) h0 bel lt0) (trodAll_cons_mk (Below.trod sealWire_laid (by kernel_rfl) (of_decide_eq_true (by kernel_rfl)) h1 bel lt1) (trodAll_cons_mk (Below.trod sealWire_laid (by kernel_rfl) (of_decide_eq_true (by kernel_rfl)) h2 bel lt2) trodAll_mk0))), rfl, bel.frame _, fun h => by cases h⟩

theorem sealWire_holds : Rows.SealWireSaid :=
  OpenClaim.holds_of_wide 12 Try.f12 rfl rfl rfl rfl rfl rfl rfl ⟨rfl, rfl, rfl, rfl, rfl⟩ rfl rfl rfl rfl rfl (by kernel_rfl) Try.func12 (by kernel_rfl)
    (of_decide_eq_true (by kernel_rfl)) (by unfold Func.isWrapper; rw [if_neg (of_decide_eq_false (by kernel_rfl))]; exact ⟨rfl, rfl⟩)
    (fun os started H enc _ => sealWire_lifted os started H enc)

#print axioms sealWire_holds

end Go.Proofs.Ytdemfaolkmillaa
