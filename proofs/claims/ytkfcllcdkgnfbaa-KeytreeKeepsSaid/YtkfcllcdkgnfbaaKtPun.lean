/-
  The contract of the tree's Puncture.
-/
import Derived.Test.YtkfcllcdkgnfbaaKtCopy
namespace Go.Proofs.Ytkfcllcdkgnfbaa.Kt
open Go.RowKit
attribute [local go_sem ↓] Go.wp_at_zero Go.wp_at_succ
/-- What a puncture leaves: the tree without the leaf; all else as it was, but for the tree's own blocks. -/
def RetPun (g : Nat) (l : List Nd) (m : Int) (F : Nat → Prop) (w : World) (e : Ending) (w' : World) : Prop :=
  e = .returned (.bool (hasI l m)) ∧ ∃ F', Tr w' g (punL l m) F' ∧ But F w w' ∧ ∀ k, F' k → F k ∨ w.heap.size ≤ k
theorem punL_hasnt {l : List Nd} {m : Int} (h : hasI l m = false) : punL l m = l := by
  refine punL_not fun x hx => ?_
  rw [hasI, List.any_eq_false] at h
  have := h x hx
  simpa using this
set_option maxRecDepth 100000 in
set_option maxHeartbeats 1600000 in
theorem tpuncture_any (g : Nat) (l : List Nd) (F : Nat → Prop) (m : Int) (w : World) (h : Tr w g l F) :
    Calls Try.prog 17 #[.pointer (some ⟨g, 0, none⟩), .int .u64 m] w (RetPun g l m F w) := by
  obtain ⟨A, n, c, ht, hFg, hFo, hFl⟩ := h
  have HT := Lib.hid ht
  have HFG := Lib.hid hFg
  have HFO := Lib.hid hFo
  have HFL := Lib.hid hFl
  clear ht hFg hFo hFl
  go_enter Try.func17, Try.ntmps17
  go_wp2_with fail
  refine (find_any g A n c l m _ HT.out).mono ?_
  rintro e w2 ⟨i, b, rfl, hf, bw⟩
  have hhas := hasI_found HT.out.ok hf
  have HT2 := Lib.hid (HT.out.below bw)
  have HB2 := Lib.hid bw
  have HH := Lib.hid hhas
  have HF := Lib.hid hf
  clear bw hhas hf
  cases b with
  | false =>
    go_wp2_with fail
    go_ret
    have e0 : hasI l m = false := HH.out.symm
    refine ⟨by rw [e0]; rfl, F, ?_, But.of_below HB2.out (fun k h1 h2 => by omega), fun k hk => .inl hk⟩
    rw [punL_hasnt e0]
    exact ⟨A, n, c, HT2.out, HFG.out, HFO.out, fun k hk => Nat.lt_of_lt_of_le (HFL.out k hk) HB2.out.size⟩
  | true =>
    obtain ⟨x, hx, hin, _⟩ := found_yes HT.out.ok HF.out
    have hil : i < l.length := (List.getElem?_eq_some_iff.1 hx).1
    have hin' : i < n := by rw [← HT.out.len]; exact hil
    have hxe : l[i] = x := (List.getElem?_eq_some_iff.1 hx).2
    have hpun := punL_found HT.out.ok HF.out hx
    have hxo : okH x := by rw [← hxe]; exact (okS_mem HT.out.ok _ (List.getElem_mem hil)).1
    obtain ⟨ad, hA, hbl, hcell⟩ := rd_node HT2.out.rd HT2.out.len3 hil
    obtain ⟨h, rfl⟩ : ∃ h, A = some ⟨h, 0, none⟩ := by
      rcases own_addrN HT.out.own with ⟨h1, h2, _⟩ | h1
      · omega
      · exact h1
    injection hA with hA
    subst hA
    rw [hxe] at hcell
    have c1 := HT2.out.c1
    have HX := Lib.hid hxo
    have HIN := Lib.hid hin
    have HP := Lib.hid hpun
    have hcell' : ∀ j v, (ndV x)[j]? = some v → w2.cell? ((⟨h, i * 34, none⟩ : Addr).add j) = some v := fun j v hv => by
      have := hcell j v hv
      rwa [show ((⟨h, 0, none⟩ : Addr).add (i * 34)) = ⟨h, i * 34, none⟩ by rw [Addr.add_mid, Nat.zero_add]] at this
    have HC := Lib.hid hcell'
    have HI : Hid ((Try.prog.info? 48).map (·.size) = some (ndV x).length) := by rw [ndV_length hxo.2.2.2.2.2]; exact info_held
    have k0 : (0 : Int) ≤ (i : Int) := by omega
    have k1 : (i : Int) < (n : Int) := by omega
    have hfew := HT.out.few
    clear hx hin hxe hpun hxo hcell hcell' hbl
    go_wp2_with (refine wpList_load_at rfl 48 (.tmp 22) rfl ⟨h, i * 34, none⟩ rfl HC.out Try.underlying48 rfl HI.out ?_
                 change wpList _ _ _ _ (Act.put _ _ (.agg (ndC x))) _)
    refine (besides_any g x m _ HX.out HIN.out HT2.out.c0).mono ?_
    rintro e w3 ⟨A3, n3, c3, rfl, ho3, bw3⟩
    have ht3 := HT2.out.below bw3
    have hn3 : n3 ≤ 131072 := by
      have h1 := ho3.1
      rw [nvs_length (woL_len _ x m HX.out.2.2.2.2.2)] at h1
      have h2 := woL_count (17 - x.d).toNat x m
      have h3 : 2 ^ (17 - x.d).toNat ≤ 2 ^ 17 := Nat.pow_le_pow_right (by omega) (by have := HX.out.1; omega)
      omega
    have HT3 := Lib.hid ht3
    have HO3 := Lib.hid ho3
    have HB3 := Lib.hid (HB2.out.trans (bw3.mono HB2.out.size))
    have hgh : h ≠ g := fun e => HT.out.apart (by rw [e]; rfl)
    have c1 := ht3.c1
    have ei : IntKind.i64.wrap ((i : Int) + 1) = (i : Int) + 1 := IntWalk.i64_in _ (by omega)
    have hvl : (woL (17 - x.d).toNat x m).length = n3 := by
      have h1 := ho3.1
      rw [nvs_length (woL_len _ x m HX.out.2.2.2.2.2)] at h1
      omega
    have HVL := Lib.hid hvl
    clear ho3 bw3 ht3 HT2 HC hvl
    go_wp2_with fail
    refine (delete_any h n c i l _ HT3.out.len HT3.out.len3 hin' (own_moreN HT3.out.own (Nat.zero_le _))).mono ?_
    rintro e w4 ⟨rfl, ho4, hb4⟩
    have hg4 : Blk w4 g #[little, .slice (some ⟨h, 0, none⟩) n c] 67 := HT3.out.blk.but hb4 (fun e => hgh e.symm)
    have fr := hg4.free 1
    have hg5 : Blk (w4.setCell ⟨g, 1, none⟩ (.slice (some ⟨h, 0, none⟩) (n - 1) c)) g #[little, .slice (some ⟨h, 0, none⟩) (n - 1) c] 67 := heap_setCell_same _ _ _ _ _ _ hg4
    have c4 : w4.cell? ⟨g, 1, none⟩ = some (.slice (some ⟨h, 0, none⟩) n c) := by rw [hg4.cell]; rfl
    have hb5 : But F w3 (w4.setCell ⟨g, 1, none⟩ (.slice (some ⟨h, 0, none⟩) (n - 1) c)) := (hb4.mono (fun k hk => by rw [hk]; exact HFO.out h rfl)).setCell (.inl HFG.out) _
    have ho5 : (w4.setCell ⟨g, 1, none⟩ (.slice (some ⟨h, 0, none⟩) (n - 1) c)).ownsRow 0 48 34 (.slice (some ⟨h, 0, none⟩) (n - 1) c) (n - 1) (nvs (l.take i ++ l.drop (i + 1))) :=
      Own.but (S := (· = g)) ho4 (But.setCell (S := (· = g)) (But.refl w4) (.inl rfl) _) (fun k hk e => by injection hk with hk; exact hgh (hk.trans e))
    have hv5 : (w4.setCell ⟨g, 1, none⟩ (.slice (some ⟨h, 0, none⟩) (n - 1) c)).ownsRow w2.heap.size 48 34 (.slice A3 n3 c3) n3 (nvs (woL (17 - x.d).toNat x m)) :=
      Own.but HO3.out hb5 (fun k hk hF => by have h1 := (own_loN HO3.out k hk).1; have h2 := HFL.out k hF; have h3 := HB2.out.size; omega)
    have G5 := Lib.hid hg5
    have B5 := Lib.hid hb5
    have O5 := Lib.hid ho5
    have V5 := Lib.hid hv5
    clear hg4 hg5 hb4 hb5 ho4 ho5 hv5 c1
    go_wp2_with fail
    have hl3 : ∀ z ∈ l.take i ++ l.drop (i + 1), z.s.length = 32 := fun z hz => by
      rcases List.mem_append.1 hz with hz | hz
      · exact HT.out.len3 z (List.mem_of_mem_take hz)
      · exact HT.out.len3 z (List.mem_of_mem_drop hz)
    have hln : (l.take i ++ l.drop (i + 1)).length = n - 1 := by
      have := HT.out.len
      rw [List.length_append, List.length_take, List.length_drop]; omega
    refine (insert_any (some ⟨h, 0, none⟩) A3 (n - 1) c i n3 c3 _ _ _ hln hl3 (by omega) O5.out (own_moreN V5.out (Nat.zero_le _)) HVL.out (woL_len _ x m HX.out.2.2.2.2.2) (by omega)
      (fun k hk hk' => by have h1 := (own_loN HO3.out k hk').1; have h2 := HFL.out k (HFO.out k hk); have h3 := HB2.out.size; omega)).mono ?_
    rintro e w6 ⟨A6, c6, rfl, ho6, hb6, hk6⟩
    have hil' : (l.take i).length = i := by rw [List.length_take]; omega
    have hpl : (l.take i ++ l.drop (i + 1)).take i ++ woL (17 - x.d).toNat x m ++ (l.take i ++ l.drop (i + 1)).drop i = punL l m := by
      rw [HP.out, List.take_left' hil', List.drop_left' hil']
    rw [hpl] at ho6
    have hg6 : Blk w6 g #[little, .slice (some ⟨h, 0, none⟩) (n - 1) c] 67 := G5.out.but hb6 (fun e => hgh (by injection e))
    have fr6 := hg6.free 1
    have c6' : w6.cell? ⟨g, 1, none⟩ = some (.slice (some ⟨h, 0, none⟩) (n - 1) c) := by rw [hg6.cell]; rfl
    have hg7 : Blk (w6.setCell ⟨g, 1, none⟩ (.slice A6 (n - 1 + n3) c6)) g #[little, .slice A6 (n - 1 + n3) c6] 67 := heap_setCell_same _ _ _ _ _ _ hg6
    have hag : (Value.slice A6 (n - 1 + n3) c6).ownBlock ≠ some g := fun e => by
      rcases hk6 g e with h1 | h1
      · exact hgh (by injection h1)
      · have := G5.out.lt; omega
    have hb7 : But F w3 (w6.setCell ⟨g, 1, none⟩ (.slice A6 (n - 1 + n3) c6)) :=
      (B5.out.trans (hb6.mono (fun k hk => HFO.out k hk))).setCell (.inl HFG.out) _
    have ho7 : (w6.setCell ⟨g, 1, none⟩ (.slice A6 (n - 1 + n3) c6)).ownsRow 0 48 34 (.slice A6 (n - 1 + n3) c6) (n - 1 + n3) (nvs (punL l m)) :=
      Own.but (S := (· = g)) ho6 (But.setCell (S := (· = g)) (But.refl w6) (.inl rfl) _) (fun k hk e => hag (by rw [hk, e]))
    have hpok := punL_ok m HT.out.ok
    have hpn : (punL l m).length = n - 1 + n3 := by
      have h1 := ho7.1
      rw [nvs_length (okS_len hpok)] at h1; omega
    have hB7 : But F w (w6.setCell ⟨g, 1, none⟩ (.slice A6 (n - 1 + n3) c6)) := (But.of_below HB3.out (fun k h1 h2 => by omega)).trans hb7
    have hs7 : w.heap.size ≤ (w4.setCell ⟨g, 1, none⟩ (.slice (some ⟨h, 0, none⟩) (n - 1) c)).heap.size := Nat.le_trans HB3.out.size B5.out.size
    have ho7l := fun k hk => (own_loN ho7 k hk).2
    have hg7l := hg7.lt
    have HF' : Hid (∀ k, (k = g ∨ (Value.slice A6 (n - 1 + n3) c6).ownBlock = some k) → (F k ∨ w.heap.size ≤ k)) := fun k hk => by
      rcases hk with rfl | hk
      · exact .inl HFG.out
      · rcases hk6 k hk with h1 | h1
        · exact .inl (HFO.out k h1)
        · exact .inr (Nat.le_trans hs7 h1)
    have HTR : Hid (Tr (w6.setCell ⟨g, 1, none⟩ (.slice A6 (n - 1 + n3) c6)) g (punL l m) (fun k => k = g ∨ (Value.slice A6 (n - 1 + n3) c6).ownBlock = some k)) :=
      ⟨A6, n - 1 + n3, c6, ⟨hg7, ho7, hpn, hpok, hag⟩, .inl rfl, fun k hk => .inr hk, fun k hk => by
        rcases hk with rfl | hk
        · exact hg7l
        · exact ho7l k hk⟩
    have HB7 := Lib.hid hB7
    clear ho6 hb6 hk6 hg6 hg7 hag hb7 ho7 hpok hpn hB7 ho7l hg7l hpl hs7 hl3 hln
    go_wp2_with fail
    go_ret
    exact ⟨by rw [← HH.out]; rfl, _, HTR.out, HB7.out, HF'.out⟩
end Go.Proofs.Ytkfcllcdkgnfbaa.Kt
