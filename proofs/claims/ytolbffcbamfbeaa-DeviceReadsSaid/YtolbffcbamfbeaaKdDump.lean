/-
  The contracts of slices.Clone over sectors, and of a device's Dump.
-/
import Derived.Test.YtolbffcbamfbeaaKdRot
import Derived.Lib.Overlaps
namespace Go.Proofs.Ytolbffcbamfbeaa.Kd
open Go.RowKit Go.Maps
attribute [local go_sem ↓] Go.wp_at_zero Go.wp_at_succ
theorem info_secW : (Try.prog.info? 38).map (fun i => (i.zero, i.size, i.bytes)) = some (some (.agg (bva zeroS)), 128, 128) := by kernel_rfl
theorem secsElt : EltN Try.prog 43 38 (.agg (bva zeroS)) 128 128 := ⟨Try.underlying43, info_secW, by show (bva zeroS).size = 128; rw [bva_size, zeroS_length], by omega, by omega⟩
theorem svs_one : ∀ (l : List (List UInt8)), ∀ u ∈ svs l, u.oneCell' = true
  | [], u, h => by cases h
  | x :: l, u, h => by
    rw [svs, List.mem_append] at h
    rcases h with h | h
    · exact bv_one x u h
    · exact svs_one l u h
set_option maxRecDepth 100000 in
set_option maxHeartbeats 800000 in
theorem secClone_any {B : Nat} (A : Option Addr) (n c : Nat) (l : List (List UInt8)) (w : World) (hl : l.length = n) (h3 : ∀ x ∈ l, x.length = 128) (hB : B ≤ w.heap.size) (hr : Rd B w A (svs l)) (hn : n ≤ 1000000) :
    Calls Try.prog 42 #[.slice A n c] w (RetRowN 38 128 (svs l) w) := by
  have hlen : (svs l).length = n * 128 := by rw [svs_length h3, hl]
  rcases A with _ | ad
  · have h0 : n = 0 := by
      rcases Nat.eq_zero_or_pos n with h | h
      · exact h
      · obtain ⟨u, hu⟩ : ∃ u, (svs l)[0]? = some u := ⟨(svs l)[0]'(by omega), List.getElem?_eq_getElem (by omega)⟩
        obtain ⟨_, h, _⟩ := hr 0 u hu
        cases h
    subst h0
    have hnil := fun W => Lib.run_eql_slice_nil (P := Try.prog) W 43 38 none 0 c 0 0 Try.underlying43
    simp only [Option.isNone_none] at hnil
    obtain rfl : l = [] := List.eq_nil_of_length_eq_zero hl
    clear hr hB hl h3 hlen hn
    go_enter Try.func42, Try.ntmps42
    go_wp2_with fail
    go_ret
    exact ⟨none, 0, 0, rfl, World.ownsRow_nil _ _ _ _, Below.refl _ _⟩
  · have hnil := fun W => Lib.run_eql_slice_nil (P := Try.prog) W 43 38 (some ad) n c 0 0 Try.underlying43
    simp only [Option.isNone_some] at hnil
    have HR := Lib.hid (hr.more hB)
    have HL := Lib.hid hlen
    clear hr hB hl h3 hlen
    go_enter Try.func42, Try.ntmps42
    go_wp2_with (at_builtin
                 refine wpList_appN _ rfl (.tmp 5) (.tmp 6) 43 rfl secsElt (base := w.heap.size) (v := .slice (some ⟨w.heap.size, 0, none⟩) 0 0) rfl (World.ownsRow_lit w #[] 0 (Nat.le_refl _) (Nat.zero_le _) rfl) (m := n) rfl (HR.out.below ((Below.refl _ _).alloc (Nat.le_refl _) _)) HL.out (svs_one _) ?_ ?_ ?_
                 · omega
                 · simp
                 intro A3 c3 w3 ho3 hg3 _
                 have hb3 : Below w.heap.size w w3 := app_belowN ((Below.refl _ _).alloc (Nat.le_refl _) _) (World.ownsRow_lit (size := 128) w #[] 0 (Nat.le_refl _) (Nat.zero_le _) rfl) hg3 (Nat.le_refl _) (by simp)
                 have O3 := Lib.hid ho3
                 have B3 := Lib.hid hb3
                 clear ho3 hg3 hb3)
    go_ret
    have h := O3.out
    rw [List.nil_append, Nat.zero_add] at h
    exact ⟨A3, n, c3, rfl, h, B3.out⟩
theorem dump_any {w : World} {g : Nat} {PV WV MV KV BV LV GV : Value} (A : Option Addr) (n c : Nat) (l : List (List UInt8)) (hp : Blk w g #[PV, .slice A n c, WV, MV, KV, BV, LV, GV] 74) (hl : l.length = n) (h3 : ∀ x ∈ l, x.length = 128) (hr : Rd w.heap.size w A (svs l)) (hn : n ≤ 1000000) :
    Calls Try.prog 22 #[.pointer (some ⟨g, 0, none⟩)] w (RetRowN 38 128 (svs l) w) := by
  have c1 : w.cell? ⟨g, 1, none⟩ = some (.slice A n c) := hp.cell 1
  have HL := Lib.hid hl
  have H3 := Lib.hid h3
  have HR := Lib.hid hr
  clear hp hl h3 hr
  go_enter Try.func22, Try.ntmps22
  go_wp2_with fail
  refine (secClone_any A n c l _ HL.out H3.out (Nat.le_refl _) HR.out hn).mono ?_
  rintro e w2 ⟨A2, n2, c2, rfl, ho, bw⟩
  have HO := Lib.hid ho
  have HB := Lib.hid bw
  clear ho bw c1
  go_wp2_with fail
  go_ret
  exact ⟨A2, n2, c2, rfl, HO.out, HB.out⟩
theorem dump_nil {w : World} : Calls Try.prog 22 #[.pointer none] w (Ret0 (.slice none 0 0) w) := by
  go_enter Try.func22, Try.ntmps22
  go_wp2_with fail
  go_ret
  exact ⟨rfl, rfl⟩
theorem dump_sys {w : World} {p : Nat} {gs : List Nat} {S : Sy} {F : Nat → Prop} (h : Sys w p gs S F) (k : Nat) (hk : k < S.ds.length) :
    Calls Try.prog 22 #[.pointer (some ⟨gs.getD k 0, 0, none⟩)] w (RetRowN 38 128 (svs (S.at k).st) w) := by
  obtain ⟨bs, Fs, FA, fc, lf, h, hF, hl⟩ := h
  obtain ⟨A, n, c, W, m, e, M, D, hd, hDF⟩ := h.dev k hk
  exact dump_any A n c _ hd.blk hd.stn hd.ok.st (Rd.ownN hd.st) (by have := hd.ok.len; have := hd.stn; omega)
end Go.Proofs.Ytolbffcbamfbeaa.Kd
