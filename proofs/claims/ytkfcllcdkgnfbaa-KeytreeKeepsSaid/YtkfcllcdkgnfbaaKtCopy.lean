/-
  The contracts of slices.Clone over held nodes, and of the tree's Held, Count; trees with the blocks that are theirs.
-/
import Derived.Test.YtkfcllcdkgnfbaaKtHas
import Derived.Test.YtkfcllcdkgnfbaaKtBes
namespace Go.Proofs.Ytkfcllcdkgnfbaa.Kt
open Go.RowKit
attribute [local go_sem ↓] Go.wp_at_zero Go.wp_at_succ
/-- A tree at block g whose held nodes are l; all blocks that are its own are of F. -/
def Tr (w : World) (g : Nat) (l : List Nd) (F : Nat → Prop) : Prop :=
  ∃ A n c, TrA w g A n c l ∧ F g ∧ (∀ k, (Value.slice A n c).ownBlock = some k → F k) ∧ ∀ k, F k → k < w.heap.size
section
variable {w w' : World} {g : Nat} {l : List Nd} {F S : Nat → Prop}
theorem Tr.ok (h : Tr w g l F) : okS 0 l := by obtain ⟨_, _, _, h, _⟩ := h; exact h.ok
theorem Tr.lt (h : Tr w g l F) : ∀ k, F k → k < w.heap.size := by obtain ⟨_, _, _, _, _, _, h⟩ := h; exact h
theorem Tr.mem (h : Tr w g l F) : F g := by obtain ⟨_, _, _, _, h, _⟩ := h; exact h
theorem Tr.but (h : Tr w g l F) (hb : But S w w') (hd : ∀ k, F k → S k → False) : Tr w' g l F := by
  obtain ⟨A, n, c, h1, h2, h3, h4⟩ := h
  exact ⟨A, n, c, h1.but hb (fun hs => hd g h2 hs) (fun k hk hs => hd k (h3 k hk) hs), h2, h3, fun k hk => Nat.lt_of_lt_of_le (h4 k hk) hb.size⟩
theorem Tr.below (h : Tr w g l F) (hb : Below w.heap.size w w') : Tr w' g l F := by
  obtain ⟨A, n, c, h1, h2, h3, h4⟩ := h
  exact ⟨A, n, c, h1.below hb, h2, h3, fun k hk => Nat.lt_of_lt_of_le (h4 k hk) hb.size⟩
theorem Tr.drewN (h : Tr w g l F) (q : Nat) : Tr (w.drewN q) g l F := h.below (below_drewN' (Below.refl _ _) q)
end
set_option maxRecDepth 100000 in
set_option maxHeartbeats 800000 in
theorem sclone_any {B : Nat} (A : Option Addr) (n c : Nat) (l : List Nd) (w : World) (hl : l.length = n) (h3 : ∀ x ∈ l, x.s.length = 32) (hB : B ≤ w.heap.size) (hr : Rd B w A (nvs l)) (hn : n ≤ 1000000) :
    Calls Try.prog 36 #[.slice A n c] w (RetRowN 48 34 (nvs l) w) := by
  have hlen : (nvs l).length = n * 34 := by rw [nvs_length h3, hl]
  rcases A with _ | ad
  · have h0 : n = 0 := by
      rcases Nat.eq_zero_or_pos n with h | h
      · exact h
      · obtain ⟨u, hu⟩ : ∃ u, (nvs l)[0]? = some u := ⟨(nvs l)[0]'(by omega), List.getElem?_eq_getElem (by omega)⟩
        obtain ⟨_, h, _⟩ := hr 0 u hu
        cases h
    subst h0
    have hnil := fun W => Lib.run_eql_slice_nil (P := Try.prog) W 40 48 none 0 c 0 0 Try.underlying40
    simp only [Option.isNone_none] at hnil
    obtain rfl : l = [] := List.eq_nil_of_length_eq_zero hl
    clear hr hB hl h3 hlen hn
    go_enter Try.func36, Try.ntmps36
    go_wp2_with fail
    go_ret
    exact ⟨none, 0, 0, rfl, World.ownsRow_nil _ _ _ _, Below.refl _ _⟩
  · have hnil := fun W => Lib.run_eql_slice_nil (P := Try.prog) W 40 48 (some ad) n c 0 0 Try.underlying40
    simp only [Option.isNone_some] at hnil
    have HR := Lib.hid (hr.more hB)
    have HL := Lib.hid hlen
    clear hr hB hl h3 hlen
    go_enter Try.func36, Try.ntmps36
    go_wp2_with (at_builtin
                 refine wpList_appN _ rfl (.tmp 5) (.tmp 6) 40 rfl heldsElt (base := w.heap.size) (v := .slice (some ⟨w.heap.size, 0, none⟩) 0 0) rfl (World.ownsRow_lit w #[] 0 (Nat.le_refl _) (Nat.zero_le _) rfl) (m := n) rfl (HR.out.below ((Below.refl _ _).alloc (Nat.le_refl _) _)) HL.out (nvs_one _) ?_ ?_ ?_
                 · omega
                 · simp
                 intro A3 c3 w3 ho3 hg3 _
                 have hb3 : Below w.heap.size w w3 := app_belowN ((Below.refl _ _).alloc (Nat.le_refl _) _) (World.ownsRow_lit (size := 34) w #[] 0 (Nat.le_refl _) (Nat.zero_le _) rfl) hg3 (Nat.le_refl _) (by simp)
                 have O3 := Lib.hid ho3
                 have B3 := Lib.hid hb3
                 clear ho3 hg3 hb3)
    go_ret
    have h := O3.out
    rw [List.nil_append, Nat.zero_add] at h
    exact ⟨A3, n, c3, rfl, h, B3.out⟩
theorem theld_any (g : Nat) (A : Option Addr) (n c : Nat) (l : List Nd) (w : World) (h : TrA w g A n c l) :
    Calls Try.prog 20 #[.pointer (some ⟨g, 0, none⟩)] w (RetRowN 48 34 (nvs l) w) := by
  have c1 := h.c1
  have H := Lib.hid h
  clear h
  go_enter Try.func20, Try.ntmps20
  go_wp2_with fail
  refine (sclone_any A n c l _ H.out.len H.out.len3 (Nat.le_refl _) H.out.rd (by have := H.out.few; omega)).mono ?_
  rintro e w2 ⟨A2, n2, c2, rfl, ho, bw⟩
  have HO := Lib.hid ho
  have HB := Lib.hid bw
  clear ho bw
  go_wp2_with fail
  go_ret
  exact ⟨A2, n2, c2, rfl, HO.out, HB.out⟩
theorem theld_nil (w : World) : Calls Try.prog 20 #[.pointer none] w (fun e w' => e = .returned (.slice none 0 0) ∧ w' = w) := by
  go_enter Try.func20, Try.ntmps20
  go_wp2_with fail
  go_ret
  exact ⟨rfl, rfl⟩
theorem tcount_nil (w : World) : Calls Try.prog 21 #[.pointer none] w (fun e w' => e = .returned (.int .i64 0) ∧ w' = w) := by
  go_enter Try.func21, Try.ntmps21
  go_wp2_with fail
  go_ret
  exact ⟨rfl, rfl⟩
set_option maxRecDepth 100000 in
set_option maxHeartbeats 1600000 in
theorem tcount_any (g : Nat) (A : Option Addr) (n c : Nat) (l : List Nd) (w : World) (h : TrA w g A n c l) :
    Calls Try.prog 21 #[.pointer (some ⟨g, 0, none⟩)] w (RetB (.int .i64 (countL l)) w) := by
  obtain ⟨cz, hcz⟩ : ∃ cz, cz = ndC zeroNd := ⟨_, rfl⟩
  have hzh : ∀ W, (zeroValue 48).run Try.prog W = .ok (.agg cz) W := fun _ => by rw [hcz]; kernel_rfl
  have ZH : Hid (cz.size = 34) := by show _ = _; rw [hcz]; exact ndC_size rfl
  have c1 := h.c1
  have HR := Lib.hid h.rd
  have HL := Lib.hid h.len
  have H3 := Lib.hid h.len3
  have HK := Lib.hid h.ok
  have HN := Lib.hid (okS_N h.ok)
  have hfew := h.few
  clear h hcz
  go_enter Try.func21, Try.ntmps21
  go_wp2_with fail
  clear c1
  go_loopw [3, 5, 13] (fun o _ i wr => ∃ k : Nat, k ≤ n ∧ i = .int .i64 k ∧ o = .int .i64 (countL (l.take k)) ∧ Below w.heap.size w wr) (fun _ _ i _ => n - (intOf i).toNat)
  case atStart => exact ⟨0, by omega, rfl, rfl, Below.refl _ _⟩
  case round =>
    obtain ⟨k, hk, rfl, rfl, hbw⟩ := hrel
    by_cases hlt : k < n
    · have hkl : k < l.length := by rw [HL.out]; exact hlt
      obtain ⟨ad, hA, hbl, hcell⟩ := rd_node (HR.out.below hbw) H3.out hkl
      subst hA
      have hsn := countL_snoc l hkl
      have hbd := countL_bd (l.take k) (fun y hy => HN.out y (List.mem_of_mem_take hy))
      have hlk : (l.take k).length = k := by rw [List.length_take]; omega
      obtain ⟨x, hxe⟩ : ∃ x, x = l[k] := ⟨_, rfl⟩
      have hx : okN x := by rw [hxe]; exact HN.out _ (List.getElem_mem hkl)
      have hm := (manyI_ok hx.1 hx.2.1).2
      rw [← hxe] at hcell hsn
      obtain ⟨C, hC⟩ : ∃ C, C = countL (l.take k) := ⟨_, rfl⟩
      obtain ⟨M, hM⟩ : ∃ M, M = manyI x.d := ⟨_, rfl⟩
      have HSN := Lib.hid (show countL (l.take (k + 1)) = C + M by rw [hsn, hC, hM])
      rw [← hC, hlk] at hbd
      rw [← hM] at hm
      have ew : IntKind.i64.wrap M = M := IntWalk.i64_in _ (by omega)
      have ea : IntKind.i64.wrap (C + M) = C + M := IntWalk.i64_in _ (by omega)
      have ek : IntKind.i64.wrap ((k : Int) + 1) = ((k + 1 : Nat) : Int) := by rw [IntWalk.i64_in _ (by omega)]; omega
      have HCE := Lib.hid hcell
      have HI : Hid ((Try.prog.info? 48).map (·.size) = some (ndV x).length) := by rw [ndV_length hx.2.2.2]; exact info_held
      have HIC : Hid ((Try.prog.info? 48).map (·.size) = some (ndC x).size) := by rw [ndC_size hx.2.2.2]; exact info_held
      have HX3 : Hid (x.s.length = 32) := hx.2.2.2
      have HLV := Lib.hid (show ∀ W, Calls Try.prog 37 #[.int .i64 x.d] W (fun e w' => e = .returned (.int .u64 M) ∧ W = w') from fun W => by rw [hM]; exact leaves_any x.d hx.1 hx.2.1 W)
      have HBW := Lib.hid hbw
      have k0 : (0 : Int) ≤ (k : Int) := by omega
      have k1 : (k : Int) < (n : Int) := by omega
      rw [← hC]
      clear hcell hsn hbd hlk hxe hx hbw hC hM
      go_wp2_with (first
        | (refine wpList_load_at rfl 48 (.tmp 15) rfl (ad.add (k * 34)) rfl HCE.out Try.underlying48 rfl HI.out ?_
           change wpList _ _ _ _ (Act.put _ _ (.agg (ndC x))) _)
        | (refine wpList_store_row rfl 48 (.tmp 5) (.tmp 16) rfl wr.heap.size (ndC x) rfl rfl 48 cz (heap_alloc_new _ _) HIC.out (by rw [ndC_size HX3.out, ZH.out]) (ndC_one _) ?_
           generalize hwx : World.setRow _ _ _ = wx
           have c0 : wx.cell? ⟨wr.heap.size, 0, none⟩ = some (.int .i64 x.d) := by
             have e1 : Blk wx wr.heap.size (ndC x) 48 := by rw [← hwx]; exact setRow_heap _ _ _ _ _ _ (heap_alloc_new _ _)
             exact ndt_d e1
           have EB := Lib.hid (show Below w.heap.size w wx by rw [← hwx]; exact below_setRow (HBW.out.alloc HBW.out.size _) HBW.out.size _)
           clear hwx))
      refine (HLV.out _).mono ?_
      rintro e w2 ⟨rfl, rfl⟩
      go_wp2_with fail
      try simp only [Act.put, List.setIfInBounds_toArray, List.set_cons_zero, List.set_cons_succ]
      go_roundw
      case rel => exact ⟨k + 1, by omega, by go_num, by rw [HSN.out], EB.out⟩
      case measure => simp [intOf]; omega
    · obtain rfl : k = n := by omega
      go_wp2
      go_ret
      rw [List.take_of_length_le (by rw [HL.out]; exact Nat.le_refl _)]
      exact ⟨rfl, hbw⟩
end Go.Proofs.Ytkfcllcdkgnfbaa.Kt
