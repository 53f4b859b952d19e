/-
  The contract of the reference's Parts: the parts whose frame a row of bytes is, each in new memory.
-/
import Derived.Test.YtafnpgjioehnjaaParts
import Derived.Deep.QuietTactic
import Derived.BigQuiet
namespace Go.Proofs.Ytafnpgjioehnjaa
open Go.RowKit

theorem size_two {l : List UInt8} {k : Nat} (h : k + 1 < l.length) : sizeAt (l.drop k) = (l[k]'(by omega)).toNat * 256 + (l[k + 1]).toNat := by
  have e : (l.drop k).take 2 = [l[k]'(by omega), l[k + 1]] := by
    rw [List.drop_eq_getElem_cons (by omega), List.drop_eq_getElem_cons h]; rfl
  rw [sizeAt, e]; simp [getL]

theorem parts_next {l : List UInt8} {ls : List (List UInt8)} {k m : Nat} (h : partsL l = (partsL (l.drop k)).map (ls ++ ·)) (hm : m = sizeAt (l.drop k)) (h3 : k + 2 + m ≤ l.length) :
    partsL l = (partsL (l.drop (k + 2 + m))).map ((ls ++ [(l.drop (k + 2)).take m]) ++ ·) := by
  have hb : ¬ badAt (l.drop k) := by unfold badAt; rw [List.length_drop, ← hm]; omega
  have h4 := parts_more h hb
  rw [← hm, List.drop_drop, List.drop_drop, ← Nat.add_assoc] at h4
  exact h4

theorem bad_long {l : List UInt8} {k m : Nat} (hm : m = sizeAt (l.drop k)) (h3 : ¬ k + 2 + m ≤ l.length) : badAt (l.drop k) := by
  unfold badAt; rw [List.length_drop, ← hm]; omega
theorem bad_short {l : List UInt8} {k : Nat} (h2 : ¬ k + 2 ≤ l.length) : badAt (l.drop k) := by
  unfold badAt; rw [List.length_drop]; omega

set_option maxHeartbeats 1600000 in
theorem rparts_any (A : Option Addr) (n c : Nat) (l : List UInt8) (w : World) (hn : l.length = n) (hnc : n ≤ c) (hcm : c ≤ maxLen) (ha : Rd w.heap.size w A (bv l)) (hs : n ≤ 1099511627776) :
    Calls Try.prog 20 #[.slice A n c] w (RetParts 23 5 (partsL l) w) := by
  subst hn
  have hcm' := hcm
  unfold maxLen at hcm'
  go_enter Try.func20, Try.ntmps20
  go_wp2_with fail
  go_loopw [4, 5] (fun o i wr => ∃ (k : Nat) (A4 : Option Addr) (c4 : Nat) (vs : List Value) (ls : List (List UInt8)), i = .int .i64 k ∧ o = .slice A4 ls.length c4 ∧ k ≤ l.length ∧ ls.length ≤ k ∧
    Hid (partsL l = (partsL (l.drop k)).map (ls ++ ·)) ∧ Below w.heap.size w wr ∧ wr.ownsRow w.heap.size 23 1 (.slice A4 ls.length c4) ls.length vs ∧ OwnLs 5 wr w.heap.size vs ls) (fun _ i _ => l.length - (intOf i).toNat)
  case atStart => exact ⟨0, none, 0, [], [], rfl, rfl, Nat.zero_le _, Nat.le_refl _, by show _ = _; rw [List.drop_zero]; cases partsL l <;> rfl, Below.refl _ _, World.ownsRow_nil _ _ _ _, OwnLs.nil⟩
  case round =>
    obtain ⟨k, A4, c4, vs, ls, rfl, rfl, hk, hlk, HP, hb, hor, hols⟩ := hrel
    have hdl : (l.drop k).length = l.length - k := List.length_drop
    by_cases hlt : k < l.length
    · by_cases h2 : k + 2 ≤ l.length
      · obtain ⟨ad, rfl, hbl, hc1⟩ := ha.at_ (k := k) hlt
        obtain ⟨_, e1, _, hc2⟩ := ha.at_ (k := k + 1) (by omega)
        injection e1 with e1
        subst e1
        have g1 := (hb.cell (p := ad.add k) (by rw [add_block]; exact hbl)).trans hc1
        have g2 := (hb.cell (p := ad.add (k + 1)) (by rw [add_block]; exact hbl)).trans hc2
        have hsz := size_two (l := l) (k := k) (by omega)
        obtain ⟨X, hX⟩ : ∃ X : Nat, X = (l[k]'(by omega)).toNat := ⟨_, rfl⟩
        obtain ⟨Y, hY⟩ : ∃ Y : Nat, Y = (l[k + 1]'(by omega)).toNat := ⟨_, rfl⟩
        have bX : X < 256 := by rw [hX]; exact UInt8.toNat_lt _
        have bY : Y < 256 := by rw [hY]; exact UInt8.toNat_lt _
        rw [← hX] at g1 hsz
        rw [← hY] at g2 hsz
        rw [add_pos (by omega)] at g2
        clear hc1 hc2 hX hY
        obtain ⟨m, hm⟩ : ∃ m : Nat, m = sizeAt (l.drop k) := ⟨_, rfl⟩
        rw [← hm] at hsz
        obtain ⟨U, hU⟩ : ∃ U : Nat, U = X * 256 := ⟨_, rfl⟩
        have wU : IntKind.i64.wrap ((X : Int) * 256) = (U : Int) := by rw [IntWalk.i64_in _ (by omega)]; omega
        have wS : IntKind.i64.wrap ((U : Int) + (Y : Int)) = (m : Int) := by rw [IntWalk.i64_in _ (by omega)]; omega
        have wk : IntKind.i64.wrap ((k : Int) + 1) = (k : Int) + 1 := IntWalk.i64_in _ (by omega)
        have k0 : (0 : Int) ≤ (k : Int) := by omega
        have k1 : (k : Int) < (l.length : Int) := by omega
        have k2 : (k : Int) + 1 < (l.length : Int) := by omega
        have k3 : (0 : Int) ≤ (k : Int) + 1 := by omega
        have k4 : (k : Int) + 2 ≤ (l.length : Int) := by omega
        have k5 : ((k : Int) + 1).toNat = k + 1 := by omega
        have m0 : m < 65536 := by omega
        have HM := Lib.hid hm
        clear hm hsz hU hdl
        go_wp2_with fail
        go_quiet (fail)
        have hbv := below_drewN' hb nq
        have hor' := own_drewN hor nq
        have hols' : OwnLs 5 (wr.drewN nq) w.heap.size vs ls := hols
        clear hb hor hols g1 g2 wU wS wk
        generalize wr.drewN nq = v at *
        by_cases h3 : k + 2 + m ≤ l.length
        · have r1 := ha.below hbv
          have k6 : (k : Int) + 2 + (m : Int) ≤ (l.length : Int) := by omega
          have k7 : (0 : Int) ≤ (k : Int) + 2 := by omega
          have k8 : (k : Int) + 2 + (m : Int) ≤ (c : Int) := by omega
          have k9 : k + 2 + m ≤ c := by omega
          by_cases hc2 : c = k + 2
          · obtain rfl : m = 0 := by omega
            obtain rfl : c = k + 2 := hc2
            have hls := hbv.size
            go_wp2_with (first
              | (at_builtin; refine wpList_app _ rfl (.tmp 37) (.tmp 45) _ rfl bytesElt (base := v.heap.size) (v := .slice (some ⟨v.heap.size, 0, none⟩) 0 0) rfl (World.ownsRow_lit v #[] 0 (Nat.le_refl _) (Nat.zero_le _) rfl) (B := 0) (m := 0) (A := some ad) (news := bv []) (c := 0) rfl Rd.none rfl (bv_one _) ?_ ?_ ?_; omega; (simp); intro A5 c5 w5 ho5' hg5 _; have ho5 : w5.ownsRow v.heap.size 5 1 (.slice A5 0 c5) 0 (bv ((l.drop (k + 2)).take 0)) := own_eq ho5' rfl rfl; have b5 := app_below ((Below.refl v.heap.size v).alloc (Nat.le_refl _) _) (World.ownsRow_lit v #[] 0 (Nat.le_refl _) (Nat.zero_le _) rfl) hg5 (Nat.le_refl _) (by simp); have hor5 := own_below hor' b5; have hols5 := hols'.below b5; have hb5 := hbv.trans (b5.mono hls); have ho55 := own_more ho5 hls; clear ho5' hg5 hor' hols' hbv)
              | (at_builtin; refine wpList_app _ rfl (.tmp 36) (.tmp 47) _ rfl rowsElt (base := w.heap.size) (v := .slice A4 ls.length c4) rfl (hor5.alloc _) (m := 1) rfl (Rd.lit w5 23 [.slice A5 0 c5]) rfl ?_ ?_ ?_ ?_; (intro u hu; simp at hu; subst hu; rfl); omega; exact (hb5.alloc hb5.size _).size; intro A8 c8 w8 ho8 hg8 _))
            have hb8 := app_below (hb5.alloc hb5.size _) (hor5.alloc _) hg8 (Nat.le_refl _) (hb5.alloc hb5.size _).size
            have hols8 := ((hols5.alloc _).kept (hor5.alloc _) hg8 (by decide)).snoc ((ho55.alloc _).kept hg8 (own_ne ho55 hor5 (by decide)))
            go_roundw
            case rel =>
              have hll : (ls ++ [(l.drop (k + 2)).take 0]).length = ls.length + 1 := by simp
              exact ⟨k + 2 + 0, A8, c8, _, ls ++ [(l.drop (k + 2)).take 0], by go_num, slice_eq hll.symm, h3, by rw [hll]; omega, parts_next HP.out HM.out h3, hb8, own_eq ho8 hll.symm rfl, hols8⟩
            case measure => simp [intOf]; omega
          · have r2 := (r1.drop (k + 2)).take m
            have hlen : ((l.drop (k + 2)).take m).length = m := by simp; omega
            have HL := Lib.hid (hlen.trans (show m = k + 2 + m - (k + 2) by omega))
            have hm47 : k + 2 + m - (k + 2) ≤ 65536 := by omega
            have hls := hbv.size
            clear hlen
            go_wp2_with (first
              | (at_builtin; refine wpList_app _ rfl (.tmp 37) (.tmp 45) _ rfl bytesElt (base := v.heap.size) (v := .slice (some ⟨v.heap.size, 0, none⟩) 0 0) rfl (World.ownsRow_lit v #[] 0 (Nat.le_refl _) (Nat.zero_le _) rfl) (m := k + 2 + m - (k + 2)) rfl ((r2.more hls).below ((Below.refl _ _).alloc (Nat.le_refl _) _)) ((bv_length _).trans HL.out) (bv_one _) ?_ ?_ ?_; omega; (simp); intro A5 c5 w5 ho5' hg5 _; have ho5 : w5.ownsRow v.heap.size 5 1 (.slice A5 m c5) m (bv ((l.drop (k + 2)).take m)) := own_eq ho5' (by omega) rfl; have b5 := app_below ((Below.refl v.heap.size v).alloc (Nat.le_refl _) _) (World.ownsRow_lit v #[] 0 (Nat.le_refl _) (Nat.zero_le _) rfl) hg5 (Nat.le_refl _) (by simp); have hor5 := own_below hor' b5; have hols5 := hols'.below b5; have hb5 := hbv.trans (b5.mono hls); have ho55 := own_more ho5 hls; clear ho5' hg5 hor' hols' hbv)
              | (at_builtin; refine wpList_app _ rfl (.tmp 36) (.tmp 47) _ rfl rowsElt (base := w.heap.size) (v := .slice A4 ls.length c4) rfl (hor5.alloc _) (m := 1) rfl (Rd.lit w5 23 [.slice A5 m c5]) rfl ?_ ?_ ?_ ?_; (intro u hu; simp at hu; subst hu; rfl); omega; exact (hb5.alloc hb5.size _).size; intro A8 c8 w8 ho8 hg8 _))
            have hb8 := app_below (hb5.alloc hb5.size _) (hor5.alloc _) hg8 (Nat.le_refl _) (hb5.alloc hb5.size _).size
            have hols8 := ((hols5.alloc _).kept (hor5.alloc _) hg8 (by decide)).snoc ((ho55.alloc _).kept hg8 (own_ne ho55 hor5 (by decide)))
            go_roundw
            case rel =>
              have hll : (ls ++ [(l.drop (k + 2)).take m]).length = ls.length + 1 := by simp
              exact ⟨k + 2 + m, A8, c8, _, ls ++ [(l.drop (k + 2)).take m], by go_num, slice_eq hll.symm, h3, by rw [hll]; omega, parts_next HP.out HM.out h3, hb8, own_eq ho8 hll.symm rfl, hols8⟩
            case measure => simp [intOf]; omega
        · have k6 : (l.length : Int) < (k : Int) + 2 + (m : Int) := by omega
          go_wp2_with fail
          go_ret2
          exact RetParts.none_ (parts_none HP.out (by rw [List.length_drop]; omega) (bad_long HM.out h3)) rfl hbv
      · have k6 : (l.length : Int) < (k : Int) + 2 := by omega
        clear hdl
        go_wp2_with fail
        go_ret2
        exact RetParts.none_ (parts_none HP.out (by rw [List.length_drop]; omega) (bad_short h2)) rfl hb
    · have k6 : (l.length : Int) ≤ (k : Int) := by omega
      clear hdl
      go_wp2_with fail
      go_ret2
      exact RetParts.some_ (parts_done HP.out (by rw [List.length_drop]; omega)) rfl hb hor hols
end Go.Proofs.Ytafnpgjioehnjaa
