/-
  Texts of this seat, one behind the other: KgCopy, KgPun, KgTKey, KgIsN, KgPlain.
-/
import Derived.Test.YtippbjpodnnhiaaMw7
/-
  The contracts of slices.Clone over held nodes, and of the tree's Held, Count; trees with the blocks that are theirs.
-/
namespace Go.Proofs.Ytippbjpodnnhiaa.Kg
open Go.RowKit
variable {ci : Ciph}
attribute [local go_sem ↓] Go.wp_at_zero Go.wp_at_succ
/-- A tree at block g whose held nodes are l; all blocks that are its own are of F. -/
def Tr (ci : Ciph) (w : World) (g : Nat) (l : List Nd) (F : Nat → Prop) : Prop :=
  ∃ A n c, TrA ci w g A n c l ∧ F g ∧ (∀ k, (Value.slice A n c).ownBlock = some k → F k) ∧ ∀ k, F k → k < w.heap.size
section
variable {w w' : World} {g : Nat} {l : List Nd} {F S : Nat → Prop}
theorem Tr.ok (h : Tr ci w g l F) : okS 0 l := by obtain ⟨_, _, _, h, _⟩ := h; exact h.ok
theorem Tr.lt (h : Tr ci w g l F) : ∀ k, F k → k < w.heap.size := by obtain ⟨_, _, _, _, _, _, h⟩ := h; exact h
theorem Tr.mem (h : Tr ci w g l F) : F g := by obtain ⟨_, _, _, _, h, _⟩ := h; exact h
theorem Tr.but (h : Tr ci w g l F) (hb : But S w w') (hd : ∀ k, F k → S k → False) : Tr ci w' g l F := by
  obtain ⟨A, n, c, h1, h2, h3, h4⟩ := h
  exact ⟨A, n, c, h1.but hb (fun hs => hd g h2 hs) (fun k hk hs => hd k (h3 k hk) hs), h2, h3, fun k hk => Nat.lt_of_lt_of_le (h4 k hk) hb.size⟩
theorem Tr.below (h : Tr ci w g l F) (hb : Below w.heap.size w w') : Tr ci w' g l F := by
  obtain ⟨A, n, c, h1, h2, h3, h4⟩ := h
  exact ⟨A, n, c, h1.below hb, h2, h3, fun k hk => Nat.lt_of_lt_of_le (h4 k hk) hb.size⟩
theorem Tr.drewN (h : Tr ci w g l F) (q : Nat) : Tr ci (w.drewN q) g l F := h.below (below_drewN' (Below.refl _ _) q)
end
set_option maxRecDepth 100000 in
set_option maxHeartbeats 800000 in
theorem sclone_any {B : Nat} (A : Option Addr) (n c : Nat) (l : List Nd) (w : World) (hl : l.length = n) (h3 : ∀ x ∈ l, x.s.length = 32) (hB : B ≤ w.heap.size) (hr : Rd B w A (nvs l)) (hn : n ≤ 1000000) :
    Calls Try.prog 38 #[.slice A n c] w (RetRowN 61 34 (nvs l) w) := by
  have hlen : (nvs l).length = n * 34 := by rw [nvs_length h3, hl]
  rcases A with _ | ad
  · have h0 : n = 0 := by
      rcases Nat.eq_zero_or_pos n with h | h
      · exact h
      · obtain ⟨u, hu⟩ : ∃ u, (nvs l)[0]? = some u := ⟨(nvs l)[0]'(by omega), List.getElem?_eq_getElem (by omega)⟩
        obtain ⟨_, h, _⟩ := hr 0 u hu
        cases h
    subst h0
    have hnil := fun W => Lib.run_eql_slice_nil (P := Try.prog) W 22 61 none 0 c 0 0 Try.underlying22
    simp only [Option.isNone_none] at hnil
    obtain rfl : l = [] := List.eq_nil_of_length_eq_zero hl
    clear hr hB hl h3 hlen hn
    go_enter Try.func38, Try.ntmps38
    go_wp2_with fail
    go_ret
    exact ⟨none, 0, 0, rfl, World.ownsRow_nil _ _ _ _, Below.refl _ _⟩
  · have hnil := fun W => Lib.run_eql_slice_nil (P := Try.prog) W 22 61 (some ad) n c 0 0 Try.underlying22
    simp only [Option.isNone_some] at hnil
    have HR := Lib.hid (hr.more hB)
    have HL := Lib.hid hlen
    clear hr hB hl h3 hlen
    go_enter Try.func38, Try.ntmps38
    go_wp2_with (at_builtin
                 refine wpList_appN _ rfl (.tmp 5) (.tmp 6) 22 rfl heldsElt (base := w.heap.size) (v := .slice (some ⟨w.heap.size, 0, none⟩) 0 0) rfl (World.ownsRow_lit w #[] 0 (Nat.le_refl _) (Nat.zero_le _) rfl) (m := n) rfl (HR.out.below ((Below.refl _ _).alloc (Nat.le_refl _) _)) HL.out (nvs_one _) ?_ ?_ ?_
                 · omega
                 · simp
                 intro A3 c3 w3 ho3 hg3 _
                 have hb3 : Below w.heap.size w w3 := app_belowN ((Below.refl _ _).alloc (Nat.le_refl _) _) (World.ownsRow_lit (size := 34) w #[] 0 (Nat.le_refl _) (Nat.zero_le _) rfl) hg3 (Nat.le_refl _) (by simp)
                 have O3 := Lib.hid ho3
                 have B3 := Lib.hid hb3
                 clear ho3 hg3 hb3)
    go_ret
    have h := O3.out
    rw [List.nil_append, Nat.zero_add] at h
    exact ⟨A3, n, c3, rfl, h, B3.out⟩
theorem theld_any (g : Nat) (A : Option Addr) (n c : Nat) (l : List Nd) (w : World) (h : TrA ci w g A n c l) :
    Calls Try.prog 21 #[.pointer (some ⟨g, 0, none⟩)] w (RetRowN 61 34 (nvs l) w) := by
  have c1 := h.c1
  have H := Lib.hid h
  clear h
  go_enter Try.func21, Try.ntmps21
  go_wp2_with fail
  refine (sclone_any A n c l _ H.out.len H.out.len3 (Nat.le_refl _) H.out.rd (by have := H.out.few; omega)).mono ?_
  rintro e w2 ⟨A2, n2, c2, rfl, ho, bw⟩
  have HO := Lib.hid ho
  have HB := Lib.hid bw
  clear ho bw
  go_wp2_with fail
  go_ret
  exact ⟨A2, n2, c2, rfl, HO.out, HB.out⟩
theorem theld_nil (w : World) : Calls Try.prog 21 #[.pointer none] w (fun e w' => e = .returned (.slice none 0 0) ∧ w' = w) := by
  go_enter Try.func21, Try.ntmps21
  go_wp2_with fail
  go_ret
  exact ⟨rfl, rfl⟩
theorem tcount_nil (w : World) : Calls Try.prog 24 #[.pointer none] w (fun e w' => e = .returned (.int .i64 0) ∧ w' = w) := by
  go_enter Try.func24, Try.ntmps24
  go_wp2_with fail
  go_ret
  exact ⟨rfl, rfl⟩
set_option maxRecDepth 100000 in
set_option maxHeartbeats 1600000 in
theorem tcount_any (g : Nat) (A : Option Addr) (n c : Nat) (l : List Nd) (w : World) (h : TrA ci w g A n c l) :
    Calls Try.prog 24 #[.pointer (some ⟨g, 0, none⟩)] w (RetB (.int .i64 (countL l)) w) := by
  obtain ⟨cz, hcz⟩ : ∃ cz, cz = ndC zeroNd := ⟨_, rfl⟩
  have hzh : ∀ W, (zeroValue 61).run Try.prog W = .ok (.agg cz) W := fun _ => by rw [hcz]; kernel_rfl
  have ZH : Hid (cz.size = 34) := by show _ = _; rw [hcz]; exact ndC_size rfl
  have c1 := h.c1
  have HR := Lib.hid h.rd
  have HL := Lib.hid h.len
  have H3 := Lib.hid h.len3
  have HK := Lib.hid h.ok
  have HN := Lib.hid (okS_N h.ok)
  have hfew := h.few
  clear h hcz
  go_enter Try.func24, Try.ntmps24
  go_wp2_with fail
  clear c1
  go_loopw [3, 5, 13] (fun o _ i wr => ∃ k : Nat, k ≤ n ∧ i = .int .i64 k ∧ o = .int .i64 (countL (l.take k)) ∧ Below w.heap.size w wr) (fun _ _ i _ => n - (intOf i).toNat)
  case atStart => exact ⟨0, by omega, rfl, rfl, Below.refl _ _⟩
  case round =>
    obtain ⟨k, hk, rfl, rfl, hbw⟩ := hrel
    by_cases hlt : k < n
    · have hkl : k < l.length := by rw [HL.out]; exact hlt
      obtain ⟨ad, hA, hbl, hcell⟩ := rd_node (HR.out.below hbw) H3.out hkl
      subst hA
      have hsn := countL_snoc l hkl
      have hbd := countL_bd (l.take k) (fun y hy => HN.out y (List.mem_of_mem_take hy))
      have hlk : (l.take k).length = k := by rw [List.length_take]; omega
      obtain ⟨x, hxe⟩ : ∃ x, x = l[k] := ⟨_, rfl⟩
      have hx : okN x := by rw [hxe]; exact HN.out _ (List.getElem_mem hkl)
      have hm := (manyI_ok hx.1 hx.2.1).2
      rw [← hxe] at hcell hsn
      obtain ⟨C, hC⟩ : ∃ C, C = countL (l.take k) := ⟨_, rfl⟩
      obtain ⟨M, hM⟩ : ∃ M, M = manyI x.d := ⟨_, rfl⟩
      have HSN := Lib.hid (show countL (l.take (k + 1)) = C + M by rw [hsn, hC, hM])
      rw [← hC, hlk] at hbd
      rw [← hM] at hm
      have ew : IntKind.i64.wrap M = M := IntWalk.i64_in _ (by omega)
      have ea : IntKind.i64.wrap (C + M) = C + M := IntWalk.i64_in _ (by omega)
      have ek : IntKind.i64.wrap ((k : Int) + 1) = ((k + 1 : Nat) : Int) := by rw [IntWalk.i64_in _ (by omega)]; omega
      have HCE := Lib.hid hcell
      have HI : Hid ((Try.prog.info? 61).map (·.size) = some (ndV x).length) := by rw [ndV_length hx.2.2.2]; exact info_held
      have HIC : Hid ((Try.prog.info? 61).map (·.size) = some (ndC x).size) := by rw [ndC_size hx.2.2.2]; exact info_held
      have HX3 : Hid (x.s.length = 32) := hx.2.2.2
      have HLV := Lib.hid (show ∀ W, Calls Try.prog 40 #[.int .i64 x.d] W (fun e w' => e = .returned (.int .u64 M) ∧ W = w') from fun W => by rw [hM]; exact leaves_any x.d hx.1 hx.2.1 W)
      have HBW := Lib.hid hbw
      have k0 : (0 : Int) ≤ (k : Int) := by omega
      have k1 : (k : Int) < (n : Int) := by omega
      rw [← hC]
      clear hcell hsn hbd hlk hxe hx hbw hC hM
      go_wp2_with (first
        | (refine wpList_load_at rfl 61 (.tmp 15) rfl (ad.add (k * 34)) rfl HCE.out Try.underlying61 rfl HI.out ?_
           change wpList _ _ _ _ (Act.put _ _ (.agg (ndC x))) _)
        | (refine wpList_store_row rfl 61 (.tmp 5) (.tmp 16) rfl wr.heap.size (ndC x) rfl rfl 61 cz (heap_alloc_new _ _) HIC.out (by rw [ndC_size HX3.out, ZH.out]) (ndC_one _) ?_
           generalize hwx : World.setRow _ _ _ = wx
           have c0 : wx.cell? ⟨wr.heap.size, 0, none⟩ = some (.int .i64 x.d) := by
             have e1 : Blk wx wr.heap.size (ndC x) 61 := by rw [← hwx]; exact setRow_heap _ _ _ _ _ _ (heap_alloc_new _ _)
             exact ndt_d e1
           have EB := Lib.hid (show Below w.heap.size w wx by rw [← hwx]; exact below_setRow (HBW.out.alloc HBW.out.size _) HBW.out.size _)
           clear hwx))
      refine (HLV.out _).mono ?_
      rintro e w2 ⟨rfl, rfl⟩
      go_wp2_with fail
      try simp only [Act.put, List.setIfInBounds_toArray, List.set_cons_zero, List.set_cons_succ]
      go_roundw
      case rel => exact ⟨k + 1, by omega, by go_num, by rw [HSN.out], EB.out⟩
      case measure => simp [intOf]; omega
    · obtain rfl : k = n := by omega
      go_wp2
      go_ret
      rw [List.take_of_length_le (by rw [HL.out]; exact Nat.le_refl _)]
      exact ⟨rfl, hbw⟩
end Go.Proofs.Ytippbjpodnnhiaa.Kg
/-
  The contract of the tree's Puncture.
-/
namespace Go.Proofs.Ytippbjpodnnhiaa.Kg
open Go.RowKit
variable {ci : Ciph}
attribute [local go_sem ↓] Go.wp_at_zero Go.wp_at_succ
/-- What a puncture leaves: the tree without the leaf; all else as it was, but for the tree's own blocks. -/
def RetPun (ci : Ciph) (g : Nat) (l : List Nd) (m : Int) (F : Nat → Prop) (w : World) (e : Ending) (w' : World) : Prop :=
  e = .returned (.bool (hasI l m)) ∧ ∃ F', Tr ci w' g (punL ci l m) F' ∧ But F w w' ∧ ∀ k, F' k → F k ∨ w.heap.size ≤ k
theorem punL_hasnt {l : List Nd} {m : Int} (h : hasI l m = false) : punL ci l m = l := by
  refine punL_not (ci := ci) fun x hx => ?_
  rw [hasI, List.any_eq_false] at h
  have := h x hx
  simpa using this
set_option maxRecDepth 100000 in
set_option maxHeartbeats 1600000 in
theorem tpuncture_any (g : Nat) (l : List Nd) (F : Nat → Prop) (m : Int) (w : World) (h : Tr ci w g l F) :
    Calls Try.prog 20 #[.pointer (some ⟨g, 0, none⟩), .int .u64 m] w (RetPun ci g l m F w) := by
  obtain ⟨A, n, c, ht, hFg, hFo, hFl⟩ := h
  have HT := Lib.hid ht
  have HFG := Lib.hid hFg
  have HFO := Lib.hid hFo
  have HFL := Lib.hid hFl
  clear ht hFg hFo hFl
  go_enter Try.func20, Try.ntmps20
  go_wp2_with fail
  refine (find_any g A n c l m _ HT.out).mono ?_
  rintro e w2 ⟨i, b, rfl, hf, bw⟩
  have hhas := hasI_found HT.out.ok hf
  have HT2 := Lib.hid (HT.out.below bw)
  have HB2 := Lib.hid bw
  have HH := Lib.hid hhas
  have HF := Lib.hid hf
  clear bw hhas hf
  cases b with
  | false =>
    go_wp2_with fail
    go_ret
    have e0 : hasI l m = false := HH.out.symm
    refine ⟨by rw [e0]; rfl, F, ?_, But.of_below HB2.out (fun k h1 h2 => by omega), fun k hk => .inl hk⟩
    rw [punL_hasnt (ci := ci) e0]
    exact ⟨A, n, c, HT2.out, HFG.out, HFO.out, fun k hk => Nat.lt_of_lt_of_le (HFL.out k hk) HB2.out.size⟩
  | true =>
    obtain ⟨x, hx, hin, _⟩ := found_yes HT.out.ok HF.out
    have hil : i < l.length := (List.getElem?_eq_some_iff.1 hx).1
    have hin' : i < n := by rw [← HT.out.len]; exact hil
    have hxe : l[i] = x := (List.getElem?_eq_some_iff.1 hx).2
    have hpun := punL_found (ci := ci) HT.out.ok HF.out hx
    have hxo : okH x := by rw [← hxe]; exact (okS_mem HT.out.ok _ (List.getElem_mem hil)).1
    obtain ⟨ad, hA, hbl, hcell⟩ := rd_node HT2.out.rd HT2.out.len3 hil
    obtain ⟨h, rfl⟩ : ∃ h, A = some ⟨h, 0, none⟩ := by
      rcases own_addrN HT.out.own with ⟨h1, h2, _⟩ | h1
      · omega
      · exact h1
    injection hA with hA
    subst hA
    rw [hxe] at hcell
    have c1 := HT2.out.c1
    have HX := Lib.hid hxo
    have HIN := Lib.hid hin
    have HP := Lib.hid hpun
    have hcell' : ∀ j v, (ndV x)[j]? = some v → w2.cell? ((⟨h, i * 34, none⟩ : Addr).add j) = some v := fun j v hv => by
      have := hcell j v hv
      rwa [show ((⟨h, 0, none⟩ : Addr).add (i * 34)) = ⟨h, i * 34, none⟩ by rw [Addr.add_mid, Nat.zero_add]] at this
    have HC := Lib.hid hcell'
    have HI : Hid ((Try.prog.info? 61).map (·.size) = some (ndV x).length) := by rw [ndV_length hxo.2.2.2.2.2]; exact info_held
    have k0 : (0 : Int) ≤ (i : Int) := by omega
    have k1 : (i : Int) < (n : Int) := by omega
    have hfew := HT.out.few
    clear hx hin hxe hpun hxo hcell hcell' hbl
    go_wp2_with (refine wpList_load_at rfl 61 (.tmp 22) rfl ⟨h, i * 34, none⟩ rfl HC.out Try.underlying61 rfl HI.out ?_
                 change wpList _ _ _ _ (Act.put _ _ (.agg (ndC x))) _)
    refine (besides_any g x m _ HX.out HIN.out HT2.out.c0).mono ?_
    rintro e w3 ⟨A3, n3, c3, rfl, ho3, bw3⟩
    have ht3 := HT2.out.below bw3
    have hn3 : n3 ≤ 131072 := by
      have h1 := ho3.1
      rw [nvs_length (woL_len (ci := ci) _ x m HX.out.2.2.2.2.2)] at h1
      have h2 := woL_count (ci := ci) (17 - x.d).toNat x m
      have h3 : 2 ^ (17 - x.d).toNat ≤ 2 ^ 17 := Nat.pow_le_pow_right (by omega) (by have := HX.out.1; omega)
      omega
    have HT3 := Lib.hid ht3
    have HO3 := Lib.hid ho3
    have HB3 := Lib.hid (HB2.out.trans (bw3.mono HB2.out.size))
    have hgh : h ≠ g := fun e => HT.out.apart (by rw [e]; rfl)
    have c1 := ht3.c1
    have ei : IntKind.i64.wrap ((i : Int) + 1) = (i : Int) + 1 := IntWalk.i64_in _ (by omega)
    have hvl : (woL ci (17 - x.d).toNat x m).length = n3 := by
      have h1 := ho3.1
      rw [nvs_length (woL_len (ci := ci) _ x m HX.out.2.2.2.2.2)] at h1
      omega
    have HVL := Lib.hid hvl
    clear ho3 bw3 ht3 HT2 HC hvl
    go_wp2_with fail
    refine (delete_any h n c i l _ HT3.out.len HT3.out.len3 hin' (own_moreN HT3.out.own (Nat.zero_le _))).mono ?_
    rintro e w4 ⟨rfl, ho4, hb4⟩
    have hg4 : Blk w4 g #[ci.v, .slice (some ⟨h, 0, none⟩) n c] 85 := HT3.out.blk.but hb4 (fun e => hgh e.symm)
    have fr := hg4.free 1
    have hg5 : Blk (w4.setCell ⟨g, 1, none⟩ (.slice (some ⟨h, 0, none⟩) (n - 1) c)) g #[ci.v, .slice (some ⟨h, 0, none⟩) (n - 1) c] 85 := heap_setCell_same _ _ _ _ _ _ hg4
    have c4 : w4.cell? ⟨g, 1, none⟩ = some (.slice (some ⟨h, 0, none⟩) n c) := by rw [hg4.cell]; rfl
    have hb5 : But F w3 (w4.setCell ⟨g, 1, none⟩ (.slice (some ⟨h, 0, none⟩) (n - 1) c)) := (hb4.mono (fun k hk => by rw [hk]; exact HFO.out h rfl)).setCell (.inl HFG.out) _
    have ho5 : (w4.setCell ⟨g, 1, none⟩ (.slice (some ⟨h, 0, none⟩) (n - 1) c)).ownsRow 0 61 34 (.slice (some ⟨h, 0, none⟩) (n - 1) c) (n - 1) (nvs (l.take i ++ l.drop (i + 1))) :=
      Own.but (S := (· = g)) ho4 (But.setCell (S := (· = g)) (But.refl w4) (.inl rfl) _) (fun k hk e => by injection hk with hk; exact hgh (hk.trans e))
    have hv5 : (w4.setCell ⟨g, 1, none⟩ (.slice (some ⟨h, 0, none⟩) (n - 1) c)).ownsRow w2.heap.size 61 34 (.slice A3 n3 c3) n3 (nvs (woL ci (17 - x.d).toNat x m)) :=
      Own.but HO3.out hb5 (fun k hk hF => by have h1 := (own_loN HO3.out k hk).1; have h2 := HFL.out k hF; have h3 := HB2.out.size; omega)
    have G5 := Lib.hid hg5
    have B5 := Lib.hid hb5
    have O5 := Lib.hid ho5
    have V5 := Lib.hid hv5
    clear hg4 hg5 hb4 hb5 ho4 ho5 hv5 c1
    go_wp2_with fail
    have hl3 : ∀ z ∈ l.take i ++ l.drop (i + 1), z.s.length = 32 := fun z hz => by
      rcases List.mem_append.1 hz with hz | hz
      · exact HT.out.len3 z (List.mem_of_mem_take hz)
      · exact HT.out.len3 z (List.mem_of_mem_drop hz)
    have hln : (l.take i ++ l.drop (i + 1)).length = n - 1 := by
      have := HT.out.len
      rw [List.length_append, List.length_take, List.length_drop]; omega
    refine (insert_any (some ⟨h, 0, none⟩) A3 (n - 1) c i n3 c3 _ _ _ hln hl3 (by omega) O5.out (own_moreN V5.out (Nat.zero_le _)) HVL.out (woL_len (ci := ci) _ x m HX.out.2.2.2.2.2) (by omega)
      (fun k hk hk' => by have h1 := (own_loN HO3.out k hk').1; have h2 := HFL.out k (HFO.out k hk); have h3 := HB2.out.size; omega)).mono ?_
    rintro e w6 ⟨A6, c6, rfl, ho6, hb6, hk6⟩
    have hil' : (l.take i).length = i := by rw [List.length_take]; omega
    have hpl : (l.take i ++ l.drop (i + 1)).take i ++ woL ci (17 - x.d).toNat x m ++ (l.take i ++ l.drop (i + 1)).drop i = punL ci l m := by
      rw [HP.out, List.take_left' hil', List.drop_left' hil']
    rw [hpl] at ho6
    have hg6 : Blk w6 g #[ci.v, .slice (some ⟨h, 0, none⟩) (n - 1) c] 85 := G5.out.but hb6 (fun e => hgh (by injection e))
    have fr6 := hg6.free 1
    have c6' : w6.cell? ⟨g, 1, none⟩ = some (.slice (some ⟨h, 0, none⟩) (n - 1) c) := by rw [hg6.cell]; rfl
    have hg7 : Blk (w6.setCell ⟨g, 1, none⟩ (.slice A6 (n - 1 + n3) c6)) g #[ci.v, .slice A6 (n - 1 + n3) c6] 85 := heap_setCell_same _ _ _ _ _ _ hg6
    have hag : (Value.slice A6 (n - 1 + n3) c6).ownBlock ≠ some g := fun e => by
      rcases hk6 g e with h1 | h1
      · exact hgh (by injection h1)
      · have := G5.out.lt; omega
    have hb7 : But F w3 (w6.setCell ⟨g, 1, none⟩ (.slice A6 (n - 1 + n3) c6)) :=
      (B5.out.trans (hb6.mono (fun k hk => HFO.out k hk))).setCell (.inl HFG.out) _
    have ho7 : (w6.setCell ⟨g, 1, none⟩ (.slice A6 (n - 1 + n3) c6)).ownsRow 0 61 34 (.slice A6 (n - 1 + n3) c6) (n - 1 + n3) (nvs (punL ci l m)) :=
      Own.but (S := (· = g)) ho6 (But.setCell (S := (· = g)) (But.refl w6) (.inl rfl) _) (fun k hk e => hag (by rw [hk, e]))
    have hpok := punL_ok (ci := ci) m HT.out.ok
    have hpn : (punL ci l m).length = n - 1 + n3 := by
      have h1 := ho7.1
      rw [nvs_length (okS_len hpok)] at h1; omega
    have hB7 : But F w (w6.setCell ⟨g, 1, none⟩ (.slice A6 (n - 1 + n3) c6)) := (But.of_below HB3.out (fun k h1 h2 => by omega)).trans hb7
    have hs7 : w.heap.size ≤ (w4.setCell ⟨g, 1, none⟩ (.slice (some ⟨h, 0, none⟩) (n - 1) c)).heap.size := Nat.le_trans HB3.out.size B5.out.size
    have ho7l := fun k hk => (own_loN ho7 k hk).2
    have hg7l := hg7.lt
    have HF' : Hid (∀ k, (k = g ∨ (Value.slice A6 (n - 1 + n3) c6).ownBlock = some k) → (F k ∨ w.heap.size ≤ k)) := fun k hk => by
      rcases hk with rfl | hk
      · exact .inl HFG.out
      · rcases hk6 k hk with h1 | h1
        · exact .inl (HFO.out k h1)
        · exact .inr (Nat.le_trans hs7 h1)
    have HTR : Hid (Tr ci (w6.setCell ⟨g, 1, none⟩ (.slice A6 (n - 1 + n3) c6)) g (punL ci l m) (fun k => k = g ∨ (Value.slice A6 (n - 1 + n3) c6).ownBlock = some k)) :=
      ⟨A6, n - 1 + n3, c6, ⟨hg7, ho7, hpn, hpok, hag⟩, .inl rfl, fun k hk => .inr hk, fun k hk => by
        rcases hk with rfl | hk
        · exact hg7l
        · exact ho7l k hk⟩
    have HB7 := Lib.hid hB7
    clear ho6 hb6 hk6 hg6 hg7 hag hb7 ho7 hpok hpn hB7 ho7l hg7l hpl hs7 hl3 hln
    go_wp2_with fail
    go_ret
    exact ⟨by rw [← HH.out]; rfl, _, HTR.out, HB7.out, HF'.out⟩
end Go.Proofs.Ytippbjpodnnhiaa.Kg
/-
  The contract of the tree's Key.
-/
namespace Go.Proofs.Ytippbjpodnnhiaa.Kg
open Go.RowKit
variable {ci : Ciph}
attribute [local go_sem ↓] Go.wp_at_zero Go.wp_at_succ
theorem near_step (y : Nd) (m : Int) : nearN ci y m = stepK ci y m := by
  unfold nearN stepK
  have e : (ndR ci y).a = IntKind.u64.wrap (y.a + manyI (y.d + 1)) := rfl
  rw [e]
  by_cases h : m < IntKind.u64.wrap (y.a + manyI (y.d + 1))
  · rw [if_pos h, if_neg (by omega)]
  · rw [if_neg h, if_pos (by omega)]
theorem by_rest3 {R G : Nat → Nat → Nat → World → Prop} {p : Prop} (ways : (∀ X Y Z w', R X Y Z w' → G X Y Z w') → p) (rest : ∀ X Y Z w', R X Y Z w' → G X Y Z w') : p := ways rest
theorem okH_step {y : Nd} (m : Int) (hy : okH y) (hd : y.d < 17) : okH (stepK ci y m) := by
  unfold stepK; split
  · exact (ndR_ok (ci := ci) hy hd).1
  · exact (ndL_ok (ci := ci) hy hd).1
set_option maxRecDepth 100000 in
set_option maxHeartbeats 3200000 in
theorem tkey_any (g : Nat) (A : Option Addr) (n c : Nat) (l : List Nd) (m : Int) (w : World) (h : TrA ci w g A n c l) :
    Calls Try.prog 23 #[.pointer (some ⟨g, 0, none⟩), .int .u64 m] w (RetB (keyV ci (l.find? (inI · m)) m) w) := by
  obtain ⟨z, hz0⟩ : ∃ z : List UInt8, z = List.replicate 32 0 := ⟨_, rfl⟩
  obtain ⟨cz, hcz⟩ : ∃ cz, cz = ndC zeroNd := ⟨_, rfl⟩
  have hz : ∀ W, (zeroValue 43).run Try.prog W = .ok (.agg (bva z)) W := fun _ => by rw [hz0]; kernel_rfl
  have hzh : ∀ W, (zeroValue 61).run Try.prog W = .ok (.agg cz) W := fun _ => by rw [hcz]; kernel_rfl
  have HBZ := Lib.hid (show ∀ W, (Instr.build 43 #[]).run Try.prog W = .ok (.agg (bva z)) W from fun _ => by rw [hz0]; kernel_rfl)
  have ZH : Hid (cz.size = 34) := by show _ = _; rw [hcz]; exact ndC_size rfl
  have Z3 : Hid (z.length = 32) := by show _ = _; rw [hz0]; rfl
  have HKZ : Hid ((Try.prog.info? 43).map (·.size) = some (bva z).size) := by rw [bva_size, Z3.out]; exact info_keyL
  have b1 : Blk (w.alloc (.cells (bva z) 43)) w.heap.size (bva z) 43 := heap_alloc_new _ _
  have hb : Below w.heap.size w (w.alloc (.cells (bva z) 43)) := (Below.refl _ _).alloc (Nat.le_refl _) _
  have HT := Lib.hid h
  have B1 := Lib.hid b1
  have BB := Lib.hid hb
  have Z0 := Lib.hid hz0
  clear h b1 hb hcz hz0
  go_enter Try.func23, Try.ntmps23
  go_wp2_with fail
  refine (find_any g A n c l m _ (HT.out.below BB.out)).mono ?_
  rintro e w2 ⟨i, b, rfl, hf, bw⟩
  have hB2 := BB.out.trans (bw.mono BB.out.size)
  have HT2 := Lib.hid (HT.out.below hB2)
  have HB2 := Lib.hid hB2
  have HF := Lib.hid hf
  have P1 := Lib.hid (B1.out.below bw)
  clear bw hf hB2 B1 BB
  cases b with
  | false =>
    have hk : l.find? (inI · m) = none := by
      rw [List.find?_eq_none]; intro x hx; rw [found_not HT.out.ok HF.out x hx]; simp
    have HK := Lib.hid hk
    clear hk
    go_wp2_with (first
      | (refine wpList_build rfl 43 #[] rfl (HBZ.out _) ?_)
      | (refine wpList_store_row rfl 43 (.tmp 4) (.tmp 18) rfl w.heap.size (bva z) rfl rfl 43 (bva z) P1.out HKZ.out rfl (bva_one _) ?_
         generalize hwx : World.setRow _ _ _ = wx
         have e1 : Blk wx w.heap.size (bva z) 43 := by rw [← hwx]; exact setRow_heap _ _ _ _ _ _ P1.out
         have eb : Below w.heap.size w wx := by rw [← hwx]; exact below_setRow HB2.out (Nat.le_refl _) _
         have Q1 := Lib.hid e1
         have QB := Lib.hid eb
         clear hwx e1 eb))
    try simp only [Act.put, List.setIfInBounds_toArray, List.set_cons_zero, List.set_cons_succ]
    rw [HK.out, keyV_none, ← Z0.out]
    exact bodyPost_ret (v := .tuple #[.agg (bva z), .bool false]) (results_ct Try.results23 _ _ w.heap.size 43 (bva z) _ rfl Q1.out Try.underlying43 rfl HKZ.out) rfl ⟨rfl, QB.out⟩
  | true =>
    obtain ⟨x, hx, hin, hbf, _⟩ := found_yes HT.out.ok HF.out
    have hil : i < l.length := (List.getElem?_eq_some_iff.1 hx).1
    have hin' : i < n := by rw [← HT.out.len]; exact hil
    have hxe : l[i] = x := (List.getElem?_eq_some_iff.1 hx).2
    have hxo : okH x := by rw [← hxe]; exact (okS_mem HT.out.ok _ (List.getElem_mem hil)).1
    have hfd : l.find? (inI · m) = some x := by
      have e1 : l = l.take i ++ (x :: l.drop (i + 1)) := by rw [← hxe, ← List.drop_eq_getElem_cons hil, List.take_append_drop]
      rw [e1, List.find?_append, List.find?_eq_none.2 (fun y hy => by rw [hbf y hy]; simp), Option.none_or, List.find?_cons_of_pos (by simpa using hin)]
    obtain ⟨ad, hA, hbl, _⟩ := rd_node HT2.out.rd HT2.out.len3 hil
    subst hA
    have hcell : ∀ w', Below w2.heap.size w2 w' → ∀ j v, (ndV x)[j]? = some v → w'.cell? ((ad.add (i * 34)).add j) = some v := fun w' hb' j v hv => by
      obtain ⟨ad', hA', _, hc⟩ := rd_node (HT2.out.rd.below hb') HT2.out.len3 hil
      injection hA' with hA'
      subst hA'
      exact hc j v (by rw [hxe]; exact hv)
    have hc1 : ∀ w', Below w2.heap.size w2 w' → w'.cell? ⟨g, 1, none⟩ = some (.slice (some ad) n c) := fun w' hb' => (HT2.out.below hb').c1
    have HX := Lib.hid hxo
    have HFD := Lib.hid hfd
    have HCL := Lib.hid hcell
    have HC1 := Lib.hid hc1
    have HI : Hid ((Try.prog.info? 61).map (·.size) = some (ndV x).length) := by rw [ndV_length hxo.2.2.2.2.2]; exact info_held
    have HIC : Hid ((Try.prog.info? 61).map (·.size) = some (ndC x).size) := by rw [ndC_size hxo.2.2.2.2.2]; exact info_held
    have k0 : (0 : Int) ≤ (i : Int) := by omega
    have k1 : (i : Int) < (n : Int) := by omega
    clear hx hin hbf hxe hxo hfd hcell hc1 hbl
    go_wp2_with fail
    apply by_rest3 (R := fun X p1 p2 w' => Blk w' X (ndC x) 61 ∧ Blk w' p1 #[.pointer (some ⟨g, 0, none⟩)] 45 ∧ Blk w' p2 #[.int .u64 m] 38 ∧ w2.heap.size ≤ X ∧ X ≠ p1 ∧ X ≠ p2 ∧ w2.heap.size ≤ p1 ∧ w2.heap.size ≤ p2 ∧ Below w2.heap.size w2 w')
    case ways =>
      intro hG
      refine wp_region_held_drew (S := fun w' => Below w2.heap.size w2 w') (by kernel_rfl) (Below.refl _ _).drew (fun hh => ?_)
      have HH := Lib.hid hh
      clear hh
      refine wpAnyH_take (i := 0) (v := ?va0) rfl (by kernel_rfl) (by kernel_rfl) (by kernel_rfl) (fun _ _ _ h => h) (Or.inl ⟨by rfl, fun w' _ => ?ya0⟩) HH.out ?_
      case ya0 => (go_simp; try with_reducible rfl)
      refine wpAnyH_take (i := 1) (v := ?va1) rfl (by kernel_rfl) (by kernel_rfl) (by kernel_rfl) (fun _ _ _ h => h) (Or.inl ⟨by rfl, fun w' _ => ?ya1⟩) HH.out ?_
      case ya1 => (go_simp; try with_reducible rfl)
      try simp only [List.getElem_toArray, List.getElem_cons_succ, List.getElem_cons_zero, Act.put, List.setIfInBounds_toArray, List.set_cons_zero, List.set_cons_succ]
      refine wpAnyH_take (i := 2) (v := ?va2) rfl (by kernel_rfl) (by kernel_rfl) (by kernel_rfl) (fun _ _ _ h => h) (Or.inl ⟨by rfl, fun w' _ => ?ya2⟩) HH.out ?_
      case ya2 => (go_simp; try with_reducible rfl)
      refine wpAnyH_take (i := 3) (v := .slice (some ad) n c) rfl (by kernel_rfl) (by kernel_rfl) (by kernel_rfl) (fun _ _ _ h => h) (Or.inl ⟨by rfl, fun w' hw' => ?ya3⟩) HH.out ?_
      case ya3 => (have cc := HC1.out w' hw'; go_simp; try with_reducible rfl)
      try simp only [List.getElem_toArray, List.getElem_cons_succ, List.getElem_cons_zero, Act.put, List.setIfInBounds_toArray, List.set_cons_zero, List.set_cons_succ]
      refine wpAnyH_take (i := 4) (v := ?va4) rfl (by kernel_rfl) (by kernel_rfl) (by kernel_rfl) (fun _ _ _ h => h) (Or.inl ⟨by rfl, fun w' _ => ?ya4⟩) HH.out ?_
      case ya4 => (go_simp; try with_reducible rfl)
      refine wpAnyH_take (i := 5) (v := ?va5) rfl (by kernel_rfl) (by kernel_rfl) (by kernel_rfl) (fun _ _ _ h => h) (Or.inl ⟨by rfl, fun w' _ => ?ya5⟩) HH.out ?_
      case ya5 => (go_simp; try with_reducible rfl)
      try simp only [List.getElem_toArray, List.getElem_cons_succ, List.getElem_cons_zero, Act.put, List.setIfInBounds_toArray, List.set_cons_zero, List.set_cons_succ]
      refine wpAnyH_take (i := 6) (v := .agg (ndC x)) rfl (by kernel_rfl) (by kernel_rfl) (by kernel_rfl) (fun _ _ _ h => h) (Or.inl ⟨by rfl, fun w' hw' => ?ya6⟩) HH.out ?_
      case ya6 => exact exec_load_at 61 (.tmp 24) rfl (ad.add (i * 34)) rfl (fun j v hj => HCL.out w' hw' j v hj) Try.underlying61 rfl HI.out
      refine wpAnyH_take (i := 7) (v := ?va7) rfl (by kernel_rfl) (by kernel_rfl) (by kernel_rfl) (fun _ _ _ h => h) (Or.inl ⟨by rfl, fun w' _ => ?ya7⟩) HH.out ?_
      case ya7 => (go_simp; try with_reducible rfl)
      refine wpAnyH_take (i := 8) (v := ?va8) rfl (by kernel_rfl) (by kernel_rfl) (by kernel_rfl) (fun _ _ _ h => h) (Or.inl ⟨by rfl, fun w' _ => ?ya8⟩) HH.out ?_
      case ya8 => (go_simp; try with_reducible rfl)
      try simp only [List.getElem_toArray, List.getElem_cons_succ, List.getElem_cons_zero, Act.put, List.setIfInBounds_toArray, List.set_cons_zero, List.set_cons_succ]
      have hsd : w2.drew.heap.size = w2.heap.size := rfl
      have hh2 := HH.out
      clear HH
      generalize w2.drew = wd at *
      have HH := Lib.hid hh2
      have HSD := Lib.hid hsd
      clear hh2 hsd
      refine wpAnyH_ready (rs := [9, 10]) (by kernel_rfl) (by simp) (AllReadyH.cons rfl (fun K hK => ?_) (AllReadyH.cons rfl (fun K hK => ?_) AllReadyH.nil))
      · go_simp
        refine (toward_any g m _).mono ?_
        rintro e w5 ⟨p1, p2, rfl, h1, h2, l1, l2, bw⟩
        go_simp
        have hsz5 := bw.size
        refine hK.out _ _ (HH.out.trans (bw.mono HH.out.size)) (fun hh => ?_)
        have HH' := Lib.hid hh
        clear hh hK K HH
        have HH := Lib.hid HH'.out
        clear HH'
        try simp only [List.getElem_toArray, List.getElem_cons_succ, List.getElem_cons_zero, Act.put, List.setIfInBounds_toArray, List.set_cons_zero, List.set_cons_succ]
        refine wpAnyH_ready (rs := [10]) (by kernel_rfl) (by simp) (AllReadyH.cons rfl (fun K hK => ?_) AllReadyH.nil)
        go_simp
        have FX : Blk (World.alloc w5 (.cells cz 61)) w5.heap.size cz 61 := heap_alloc_new _ _
        have F1 : Blk (World.alloc w5 (.cells cz 61)) p1 #[.pointer (some ⟨g, 0, none⟩)] 45 := blk_old1 h1
        have F2 : Blk (World.alloc w5 (.cells cz 61)) p2 #[.int .u64 m] 38 := blk_old1 h2
        have n1 := h1.lt
        have n2 := h2.lt
        have hs2 := HH.out.size
        refine hK.out _ _ (HH.out.alloc HH.out.size _) (fun hh => ?_)
        have HH' := Lib.hid hh
        clear hh hK K HH
        have HH := Lib.hid HH'.out
        clear HH'
        generalize hW6 : World.alloc w5 (.cells cz 61) = w6 at *
        try simp only [List.getElem_toArray, List.getElem_cons_succ, List.getElem_cons_zero, Act.put, List.setIfInBounds_toArray, List.set_cons_zero, List.set_cons_succ]
        refine wpAnyH_ready (rs := [11]) (by kernel_rfl) (by simp) (AllReadyH.cons rfl (fun K hK => ?_) AllReadyH.nil)
        rw [if_pos (by rfl)]
        refine wp_store_row 61 (.tmp 8) (.tmp 25) rfl w5.heap.size (ndC x) rfl rfl 61 cz FX HIC.out (by rw [ndC_size HX.out.2.2.2.2.2, ZH.out]) (ndC_one _) ?_
        have G0 : Blk (World.setRow w6 w5.heap.size (ndC x)) w5.heap.size (ndC x) 61 := setRow_heap _ _ _ _ _ _ FX
        have G1 : Blk (World.setRow w6 w5.heap.size (ndC x)) p1 #[.pointer (some ⟨g, 0, none⟩)] 45 := blk_row F1 (by omega)
        have G2 : Blk (World.setRow w6 w5.heap.size (ndC x)) p2 #[.int .u64 m] 38 := blk_row F2 (by omega)
        refine hK.out _ _ (below_setRow HH.out (by omega) _) (fun hh => ?_)
        have HH' := Lib.hid hh
        clear hh hK K HH
        have HH := Lib.hid HH'.out
        clear HH'
        clear FX F1 F2 hW6
        generalize hW7 : World.setRow w6 w5.heap.size (ndC x) = w7 at *
        clear hW7
        try simp only [List.getElem_toArray, List.getElem_cons_succ, List.getElem_cons_zero, Act.put]
        refine wpAnyH_take (i := 12) (v := ?vz12) rfl (by kernel_rfl) (by kernel_rfl) (by kernel_rfl) (fun _ _ _ h => h) (Or.inl ⟨by rfl, fun w' _ => ?yz12⟩) HH.out ?_
        case yz12 => (go_simp; try with_reducible rfl)
        try simp only [List.getElem_toArray, List.getElem_cons_succ, List.getElem_cons_zero, Act.put, List.setIfInBounds_toArray, List.set_cons_zero, List.set_cons_succ]
        refine wpAnyH_done (by kernel_rfl) ?_ _
        try simp only [List.getElem_toArray, List.getElem_cons_succ, List.getElem_cons_zero, Act.put, List.setIfInBounds_toArray, List.set_cons_zero, List.set_cons_succ]
        obtain ⟨X, hX⟩ : ∃ X, w5.heap.size = X := ⟨_, rfl⟩
        have kb := HH.out
        clear HH
        rw [HSD.out] at l1 l2
        simp only [hX] at *
        exact hG X p1 p2 w7 ⟨G0, G1, G2, by omega, by omega, by omega, by omega, by omega, kb⟩
      · go_simp
        have FX : Blk (World.alloc wd (.cells cz 61)) wd.heap.size cz 61 := heap_alloc_new _ _
        refine hK.out _ _ (HH.out.alloc HH.out.size _) (fun hh => ?_)
        have HH' := Lib.hid hh
        clear hh hK K HH
        have HH := Lib.hid HH'.out
        clear HH'
        have hsa : (World.alloc wd (.cells cz 61)).heap.size = wd.heap.size + 1 := by simp
        generalize hW6 : World.alloc wd (.cells cz 61) = w6 at *
        try simp only [List.getElem_toArray, List.getElem_cons_succ, List.getElem_cons_zero, Act.put, List.setIfInBounds_toArray, List.set_cons_zero, List.set_cons_succ]
        refine wpAnyH_ready (rs := [9]) (by kernel_rfl) (by simp) (AllReadyH.cons rfl (fun K hK => ?_) AllReadyH.nil)
        go_simp
        refine (toward_any g m _).mono ?_
        rintro e w5 ⟨p1, p2, rfl, h1, h2, l1, l2, bw⟩
        go_simp
        have hsz5 := bw.size
        have F0 : Blk w5 wd.heap.size cz 61 := FX.below bw
        refine hK.out _ _ (HH.out.trans (bw.mono HH.out.size)) (fun hh => ?_)
        have HH' := Lib.hid hh
        clear hh hK K HH
        have HH := Lib.hid HH'.out
        clear HH'
        try simp only [List.getElem_toArray, List.getElem_cons_succ, List.getElem_cons_zero, Act.put, List.setIfInBounds_toArray, List.set_cons_zero, List.set_cons_succ]
        refine wpAnyH_ready (rs := [11]) (by kernel_rfl) (by simp) (AllReadyH.cons rfl (fun K hK => ?_) AllReadyH.nil)
        rw [if_pos (by rfl)]
        refine wp_store_row 61 (.tmp 8) (.tmp 25) rfl wd.heap.size (ndC x) rfl rfl 61 cz F0 HIC.out (by rw [ndC_size HX.out.2.2.2.2.2, ZH.out]) (ndC_one _) ?_
        have G0 : Blk (World.setRow w5 wd.heap.size (ndC x)) wd.heap.size (ndC x) 61 := setRow_heap _ _ _ _ _ _ F0
        have G1 : Blk (World.setRow w5 wd.heap.size (ndC x)) p1 #[.pointer (some ⟨g, 0, none⟩)] 45 := blk_row h1 (by omega)
        have G2 : Blk (World.setRow w5 wd.heap.size (ndC x)) p2 #[.int .u64 m] 38 := blk_row h2 (by omega)
        have hwd := HSD.out
        refine hK.out _ _ (below_setRow HH.out (by omega) _) (fun hh => ?_)
        have HH' := Lib.hid hh
        clear hh hK K HH
        have HH := Lib.hid HH'.out
        clear HH'
        clear FX F0 hW6 h1 h2
        generalize hW7 : World.setRow w5 wd.heap.size (ndC x) = w7 at *
        clear hW7
        try simp only [List.getElem_toArray, List.getElem_cons_succ, List.getElem_cons_zero, Act.put]
        refine wpAnyH_take (i := 12) (v := ?vy12) rfl (by kernel_rfl) (by kernel_rfl) (by kernel_rfl) (fun _ _ _ h => h) (Or.inl ⟨by rfl, fun w' _ => ?yy12⟩) HH.out ?_
        case yy12 => (go_simp; try with_reducible rfl)
        try simp only [List.getElem_toArray, List.getElem_cons_succ, List.getElem_cons_zero, Act.put, List.setIfInBounds_toArray, List.set_cons_zero, List.set_cons_succ]
        refine wpAnyH_done (by kernel_rfl) ?_ _
        try simp only [List.getElem_toArray, List.getElem_cons_succ, List.getElem_cons_zero, Act.put, List.setIfInBounds_toArray, List.set_cons_zero, List.set_cons_succ]
        obtain ⟨X, hX⟩ : ∃ X, wd.heap.size = X := ⟨_, rfl⟩
        have kb := HH.out
        clear HH
        simp only [hX] at *
        exact hG X p1 p2 w7 ⟨G0, G1, G2, by omega, by omega, by omega, by omega, by omega, kb⟩
    case rest =>
      rintro X p1 p2 w4 ⟨f0, f1, f2, x1, x2, x3, x4, x5, bw⟩
      have hB4 := HB2.out.trans (bw.mono HB2.out.size)
      have p1' := P1.out.below bw
      have hw0 := P1.out.lt
      have HT4 := Lib.hid (HT2.out.below bw)
      go_wp2_with fail
      go_loopw [] (fun wr => ∃ y, Hid (okH y ∧ goL ci (17 - y.d).toNat y m = goL ci (17 - x.d).toNat x m) ∧ Blk wr X (ndC y) 61 ∧ Blk wr p1 #[.pointer (some ⟨g, 0, none⟩)] 45 ∧ Blk wr p2 #[.int .u64 m] 38 ∧ Blk wr w.heap.size (bva z) 43 ∧ wr.cell? ⟨g, 0, none⟩ = some ci.v ∧ Below w.heap.size w wr) (fun wr => depthAt wr X)
      case atStart => exact ⟨x, ⟨HX.out, rfl⟩, f0, f1, f2, p1', HT4.out.c0, hB4⟩
      case round =>
        clear f0 f1 f2 p1' hB4
        obtain ⟨y, HY, f0, f1, f2, q1, hc0, fb⟩ := hrel
        by_cases h17 : y.d < 17
        · have c0 := ndt_d f0
          obtain ⟨y', hy'⟩ : ∃ y', y' = nearN ci y m := ⟨_, rfl⟩
          obtain ⟨zz, hzz⟩ : ∃ zz, zz = asideN ci y m := ⟨_, rfl⟩
          have hy3 := HY.out.1.2.2.2.2.2
          have hoy : okH y' := by rw [hy', near_step]; exact okH_step (ci := ci) m HY.out.1 h17
          have HIY : Hid ((Try.prog.info? 61).map (·.size) = some (ndC y).size) := by rw [ndC_size hy3]; exact info_held
          have HIY' : Hid ((Try.prog.info? 61).map (·.size) = some (ndC y').size) := by rw [ndC_size hoy.2.2.2.2.2]; exact info_held
          have HC := Lib.hid hc0
          have HN := Lib.hid hy'
          have HZ := Lib.hid hzz
          have HO := Lib.hid hoy
          have F0 := Lib.hid f0
          have F1 := Lib.hid f1
          have F2 := Lib.hid f2
          have Q1 := Lib.hid q1
          have FB := Lib.hid fb
          have hdd := depthAt_eqH f0
          have HDD := Lib.hid hdd
          clear f0 f1 f2 q1 hc0 fb hoy hy' hzz hdd
          go_wp2_with (refine wpList_load_row rfl 61 (.tmp 8) rfl X rfl 61 (ndC y) (0, 0) _ F0.out Try.underlying61 rfl HIY.out ?_)
          refine (spl_any g p1 p2 y m _ HY.out.1 h17 HC.out F1.out F2.out y' zz HN.out HZ.out).mono ?_
          rintro e w5 ⟨rfl, bw⟩
          have D0 := Lib.hid (F0.out.below bw)
          have D1 := Lib.hid (F1.out.below bw)
          have D2 := Lib.hid (F2.out.below bw)
          have DQ := Lib.hid (Q1.out.below bw)
          have DC := Lib.hid ((bw.cell (block_lt_of_cell HC.out)).trans HC.out)
          have DB := Lib.hid (FB.out.trans (bw.mono FB.out.size))
          have hgl : g < w.heap.size := HT.out.blk.lt
          clear bw F0 F1 F2 Q1 HC FB c0
          go_wp2_with (refine wpList_store_row rfl 61 (.tmp 8) (.tmp 36) rfl X (ndC y') rfl rfl 61 (ndC y) D0.out HIY'.out (by rw [ndC_size HO.out.2.2.2.2.2, ndC_size HY.out.1.2.2.2.2.2]) (ndC_one _) ?_
                       generalize hwx : World.setRow _ _ _ = wx
                       have e0 : Blk wx X (ndC y') 61 := by rw [← hwx]; exact setRow_heap _ _ _ _ _ _ D0.out
                       have e1 : Blk wx p1 #[.pointer (some ⟨g, 0, none⟩)] 45 := by rw [← hwx]; exact blk_row D1.out (by omega)
                       have e2 : Blk wx p2 #[.int .u64 m] 38 := by rw [← hwx]; exact blk_row D2.out (by omega)
                       have e3 : Blk wx w.heap.size (bva z) 43 := by rw [← hwx]; exact blk_row DQ.out (by omega)
                       have e4 : Below w.heap.size w wx := by rw [← hwx]; exact below_setRow DB.out (by omega) _
                       have e5 : wx.cell? ⟨g, 0, none⟩ = some ci.v := by rw [← hwx, (below_setRow (B := X) (Below.refl X w5) (Nat.le_refl _) _).cell (by show g < X; omega)]; exact DC.out
                       have E0 := Lib.hid e0
                       have E1 := Lib.hid e1
                       have E2 := Lib.hid e2
                       have E3 := Lib.hid e3
                       have E4 := Lib.hid e4
                       have E5 := Lib.hid e5
                       clear hwx e0 e1 e2 e3 e4 e5 D0 D1 D2 DQ DB DC)
          try simp only [Act.put]
          have hdy := depthAt_eqH E0.out
          have hydn : y'.d = y.d + 1 := by rw [HN.out, near_step, stepK_d]
          have HDY := Lib.hid hdy
          have HYD := Lib.hid hydn
          clear hdy hydn
          go_roundw
          case rel => exact ⟨y', ⟨HO.out, by rw [HYD.out, HN.out, near_step, ← goL_step (ci := ci) y m (by omega)]; exact HY.out.2⟩, E0.out, E1.out, E2.out, E3.out, E5.out, E4.out⟩
          case measure => rw [HDY.out, HDD.out, HYD.out]; omega
        · have c0 := ndt_d f0
          have hge := goL_end (ci := ci) y m h17
          have hy3 := HY.out.1.2.2.2.2.2
          have HY3 : Hid (y.s.length = 32) := hy3
          have HIX : Hid ((Try.prog.info? 43).map (·.size) = some (bv y.s).length) := by rw [bv_length, hy3]; exact info_keyL
          have HIB : Hid ((Try.prog.info? 43).map (·.size) = some (bva y.s).size) := by rw [bva_size, hy3]; exact info_keyL
          have HG := Lib.hid (show goL ci (17 - x.d).toNat x m = y by rw [← HY.out.2, hge])
          have F0 := Lib.hid f0
          have Q1 := Lib.hid q1
          have FB := Lib.hid fb
          clear hge hy3 f0 f1 f2 q1 hc0 fb
          go_wp2_with (first
            | (refine wpList_load_mid rfl 43 (.tmp 38) rfl X 2 rfl (bv y.s) _ (ndt_s F0.out) Try.underlying43 rfl HIX.out ?_
               change wpList _ _ _ _ (Act.put _ _ (.agg (bva y.s))) _)
            | (refine wpList_store_row rfl 43 (.tmp 4) (.tmp 39) rfl w.heap.size (bva y.s) rfl rfl 43 (bva z) Q1.out HIB.out (by rw [bva_size, bva_size, HY3.out, Z3.out]) (bva_one _) ?_
               generalize hwx : World.setRow _ _ _ = wx
               have e1 : Blk wx w.heap.size (bva y.s) 43 := by rw [← hwx]; exact setRow_heap _ _ _ _ _ _ Q1.out
               have eb : Below w.heap.size w wx := by rw [← hwx]; exact below_setRow FB.out (Nat.le_refl _) _
               have R1 := Lib.hid e1
               have RB := Lib.hid eb
               clear hwx e1 eb))
          try simp only [Act.put, List.setIfInBounds_toArray, List.set_cons_zero, List.set_cons_succ]
          rw [HFD.out, keyV_some, HG.out]
          exact bodyPost_ret (v := .tuple #[.agg (bva y.s), .bool true]) (results_ct Try.results23 _ _ w.heap.size 43 (bva y.s) _ rfl R1.out Try.underlying43 rfl HIB.out) rfl ⟨rfl, RB.out⟩
set_option maxRecDepth 100000 in
theorem tkey_nil (m : Int) (w : World) : Calls Try.prog 23 #[.pointer none, .int .u64 m] w (RetB (keyV ci none m) w) := by
  obtain ⟨z, hz0⟩ : ∃ z : List UInt8, z = List.replicate 32 0 := ⟨_, rfl⟩
  have hz : ∀ W, (zeroValue 43).run Try.prog W = .ok (.agg (bva z)) W := fun _ => by rw [hz0]; kernel_rfl
  have HBZ := Lib.hid (show ∀ W, (Instr.build 43 #[]).run Try.prog W = .ok (.agg (bva z)) W from fun _ => by rw [hz0]; kernel_rfl)
  have Z3 : Hid (z.length = 32) := by show _ = _; rw [hz0]; rfl
  have HKZ : Hid ((Try.prog.info? 43).map (·.size) = some (bva z).size) := by rw [bva_size, Z3.out]; exact info_keyL
  have P1 := Lib.hid (show Blk (w.alloc (.cells (bva z) 43)) w.heap.size (bva z) 43 from heap_alloc_new _ _)
  have HB2 := Lib.hid (show Below w.heap.size w (w.alloc (.cells (bva z) 43)) from (Below.refl _ _).alloc (Nat.le_refl _) _)
  have Z0 := Lib.hid hz0
  clear hz0
  go_enter Try.func23, Try.ntmps23
  go_wp2_with fail
  refine (find_nil m _).mono ?_
  rintro e w2 ⟨rfl, rfl⟩
  go_wp2_with (first
    | (refine wpList_build rfl 43 #[] rfl (HBZ.out _) ?_)
    | (refine wpList_store_row rfl 43 (.tmp 4) (.tmp 18) rfl w.heap.size (bva z) rfl rfl 43 (bva z) P1.out HKZ.out rfl (bva_one _) ?_
       generalize hwx : World.setRow _ _ _ = wx
       have e1 : Blk wx w.heap.size (bva z) 43 := by rw [← hwx]; exact setRow_heap _ _ _ _ _ _ P1.out
       have eb : Below w.heap.size w wx := by rw [← hwx]; exact below_setRow HB2.out (Nat.le_refl _) _
       have Q1 := Lib.hid e1
       have QB := Lib.hid eb
       clear hwx e1 eb))
  try simp only [Act.put, List.setIfInBounds_toArray, List.set_cons_zero, List.set_cons_succ]
  rw [keyV_none, ← Z0.out]
  exact bodyPost_ret (v := .tuple #[.agg (bva z), .bool false]) (results_ct Try.results23 _ _ w.heap.size 43 (bva z) _ rfl Q1.out Try.underlying43 rfl HKZ.out) rfl ⟨rfl, QB.out⟩
end Go.Proofs.Ytippbjpodnnhiaa.Kg
/-
  The contract of isNode: has the whole tree a node there?
-/
namespace Go.Proofs.Ytippbjpodnnhiaa.Kg
open Go.RowKit
variable {ci : Ciph}
attribute [local go_sem ↓] Go.wp_at_zero Go.wp_at_succ
def nodeB (x : Nd) : Bool := decide (0 ≤ x.d) && (decide (x.d ≤ 17) && (decide (x.a < 131072) && decide (x.a % manyI x.d = 0)))
theorem nodeB_iff {x : Nd} (ha : 0 ≤ x.a) (hs : x.s.length = 32) : nodeB x = true ↔ okH x := by
  simp only [nodeB, Bool.and_eq_true, decide_eq_true_eq, okH]
  constructor
  · rintro ⟨h0, h1, h2, h3⟩
    refine ⟨h0, h1, ha, h3, ?_, hs⟩
    obtain ⟨q, hq⟩ := Int.dvd_of_emod_eq_zero h3
    have hk : ∃ K : Int, manyI x.d * K = 131072 := by
      have h : x.d = 0 ∨ x.d = 1 ∨ x.d = 2 ∨ x.d = 3 ∨ x.d = 4 ∨ x.d = 5 ∨ x.d = 6 ∨ x.d = 7 ∨ x.d = 8 ∨ x.d = 9 ∨ x.d = 10 ∨ x.d = 11 ∨ x.d = 12 ∨ x.d = 13 ∨ x.d = 14 ∨ x.d = 15 ∨ x.d = 16 ∨ x.d = 17 := by omega
      rcases h with h | h | h | h | h | h | h | h | h | h | h | h | h | h | h | h | h | h <;> rw [h]
      · exact ⟨1, by decide⟩
      · exact ⟨2, by decide⟩
      · exact ⟨4, by decide⟩
      · exact ⟨8, by decide⟩
      · exact ⟨16, by decide⟩
      · exact ⟨32, by decide⟩
      · exact ⟨64, by decide⟩
      · exact ⟨128, by decide⟩
      · exact ⟨256, by decide⟩
      · exact ⟨512, by decide⟩
      · exact ⟨1024, by decide⟩
      · exact ⟨2048, by decide⟩
      · exact ⟨4096, by decide⟩
      · exact ⟨8192, by decide⟩
      · exact ⟨16384, by decide⟩
      · exact ⟨32768, by decide⟩
      · exact ⟨65536, by decide⟩
      · exact ⟨131072, by decide⟩
    obtain ⟨K, hK⟩ := hk
    have hm := (manyI_ok h0 h1).2
    rw [hq, ← hK] at h2 ⊢
    have hqk : q < K := Int.lt_of_mul_lt_mul_left h2 (by omega)
    have : manyI x.d * (q + 1) ≤ manyI x.d * K := Int.mul_le_mul_of_nonneg_left (by omega) (by omega)
    rw [Int.mul_add, Int.mul_one] at this
    exact this
  · rintro ⟨h0, h1, h2, h3, h4, _⟩
    have := (manyI_ok h0 h1).2
    exact ⟨h0, h1, by omega, h3⟩
set_option maxRecDepth 100000 in
set_option maxHeartbeats 800000 in
theorem isNode_any (x : Nd) (ha : 0 ≤ x.a) (w : World) :
    Calls Try.prog 39 #[.agg (ndC x)] w (RetB (.bool (nodeB x)) w) := by
  have b1 : Blk (w.alloc (.cells (ndC x) 61)) w.heap.size (ndC x) 61 := heap_alloc_new _ _
  have BB := Lib.hid (show Below w.heap.size w (w.alloc (.cells (ndC x) 61)) from (Below.refl _ _).alloc (Nat.le_refl _) _)
  have c0 := ndt_d b1
  have c1 := ndt_a b1
  clear b1
  by_cases h0 : 0 ≤ x.d
  · by_cases h1 : x.d ≤ 17
    · obtain ⟨M, hM⟩ : ∃ M, M = manyI x.d := ⟨_, rfl⟩
      have hm := (manyI_ok h0 h1).2
      rw [← hM] at hm
      have d0 : decide (x.d < 0) = false := decide_eq_false (by omega)
      have d1 : decide (x.d > 17) = false := decide_eq_false (by omega)
      have HQ := Lib.hid (show ∀ W, Calls Try.prog 40 #[.int .i64 x.d] W (RetQ (.int .u64 M) W) from fun W => by rw [hM]; exact leaves_q x.d h0 h1 W)
      have HQ0 := Lib.hid (show ∀ W, Calls Try.prog 40 #[.int .i64 0] W (RetQ (.int .u64 131072) W) from fun W => leaves_q 0 (by omega) (by omega) W)
      by_cases h2 : x.a < 131072
      · have d2 : decide (x.a < 131072) = true := decide_eq_true h2
        have hMz : (M == 0) = false := by simp; omega
        obtain ⟨r, hr⟩ : ∃ r, x.a.tmod M = r := ⟨_, rfl⟩
        have hr' : r = x.a % M := by rw [← hr]; exact Int.tmod_eq_emod_of_nonneg ha
        have hb : nodeB x = (r == 0) := by
          rw [nodeB, ← hM, decide_eq_true h0, decide_eq_true h1, d2, ← hr', Bool.true_and, Bool.true_and, Bool.true_and]
          by_cases h : r = 0 <;> simp [h]
        rw [hb]
        clear hb h0 h1 h2 hM ha hr'
        go_enter Try.func39, Try.ntmps39
        go_wp2_with fail
        go_quiet ((go_at_call 40; first | exact RetQ.quiet (HQ0.out _) | exact RetQ.quiet (HQ.out _)))
        go_wp2
        go_ret
        exact ⟨rfl, below_drewN' BB.out _⟩
      · have d2 : decide (x.a < 131072) = false := decide_eq_false h2
        have hb : nodeB x = false := by rw [nodeB, d2]; simp
        rw [hb]
        clear hb h0 h1 h2 hM ha HQ
        go_enter Try.func39, Try.ntmps39
        go_wp2_with fail
        go_quiet ((go_at_call 40; exact RetQ.quiet (HQ0.out _)))
        go_wp2
        go_ret
        exact ⟨rfl, below_drewN' BB.out _⟩
    · have d0 : decide (x.d < 0) = false := decide_eq_false (by omega)
      have d1 : decide (x.d > 17) = true := decide_eq_true (by omega)
      have hb : nodeB x = false := by rw [nodeB, decide_eq_false h1]; simp
      rw [hb]
      clear hb h0 h1 ha
      go_enter Try.func39, Try.ntmps39
      go_wp2
      go_ret
      exact ⟨rfl, BB.out⟩
  · have d0 : decide (x.d < 0) = true := decide_eq_true (by omega)
    have hb : nodeB x = false := by rw [nodeB, decide_eq_false h0]; simp
    rw [hb]
    clear hb h0 ha
    go_enter Try.func39, Try.ntmps39
    go_wp2
    go_ret
    exact ⟨rfl, BB.out⟩
end Go.Proofs.Ytippbjpodnnhiaa.Kg
/-
  The contract of plain: what a tree holds, as the document's nodes.
-/
namespace Go.Proofs.Ytippbjpodnnhiaa.Kg
open Go.RowKit
variable {ci : Ciph}
attribute [local go_sem ↓] Go.wp_at_zero Go.wp_at_succ
theorem rd_ndC {w : World} {g : Nat} {x : Nd} {t : TypeId} (h : Blk w g (ndC x) t) : Rd w.heap.size w (some ⟨g, 0, none⟩) (ndV x) := fun k u hu =>
  ⟨_, rfl, h.lt, by rw [add_head, h.cell, ndC, List.getElem?_toArray]; exact hu⟩
theorem nvs_snoc (l : List Nd) {k : Nat} (h : k < l.length) : nvs (l.take (k + 1)) = nvs (l.take k) ++ ndV l[k] := by
  rw [List.take_succ_eq_append_getElem h, nvs_append]; simp [nvs]
theorem info_key : (Try.prog.info? 43).map (·.size) = some 32 := by kernel_rfl
end Go.Proofs.Ytippbjpodnnhiaa.Kg
