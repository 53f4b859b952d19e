/-
  The contract of besides: what is held of a node without one of its leaves.
-/
import Derived.Test.YtkfcllcdkgnfbaaKtToward
import Derived.Test.YtkfcllcdkgnfbaaKtInsert
namespace Go.Proofs.Ytkfcllcdkgnfbaa.Kt
open Go.RowKit
attribute [local go_sem ↓] Go.wp_at_zero Go.wp_at_succ
theorem own_upN {w : World} {base base' n size : Nat} {e : TypeId} {v : Value} {xs : List Value} (h : w.ownsRow base e size v n xs) (hb : ∀ k, v.ownBlock = some k → base' ≤ k) : w.ownsRow base' e size v n xs := by
  refine ⟨h.1, ?_⟩
  rcases h.2 with h0 | ⟨g, cap, cur, h1, h2, h3⟩
  · exact .inl h0
  · exact .inr ⟨g, cap, cur, h1, hb g (by rw [h1]; rfl), h3⟩
theorem own_loN {w : World} {base n size : Nat} {e : TypeId} {v : Value} {xs : List Value} (h : w.ownsRow base e size v n xs) : ∀ k, v.ownBlock = some k → base ≤ k ∧ k < w.heap.size := fun k hk => h.lt k hk
theorem mid_take {α : Type} (a b : List α) (z : α) {k : Nat} (h : a.length = k) : (a ++ [z] ++ b).take k = a ∧ (a ++ [z] ++ b).drop k = z :: b ∧ (a ++ [z] ++ b).take (k + 1) = a ++ [z] ∧ (a ++ [z] ++ b).drop (k + 1) = b := by
  subst h
  refine ⟨?_, ?_, ?_, ?_⟩
  · rw [List.append_assoc, List.take_left']; rfl
  · rw [List.append_assoc, List.drop_left']; rfl; rfl
  · exact List.take_left' (by simp)
  · exact List.drop_left' (by simp)
/-- Where the way down stands: at y, with r aside, k of them left of it. -/
structure BesI (x : Nd) (m : Int) (y : Nd) (r : List Nd) (k : Nat) : Prop where
  ok : okH y
  isIn : inI y m = true
  le : k ≤ r.length
  eq : woL (17 - x.d).toNat x m = r.take k ++ woL (17 - y.d).toNat y m ++ r.drop k
  len3 : ∀ z ∈ r, z.s.length = 32
  few : (r.length : Int) ≤ y.d
theorem BesI.start {x : Nd} {m : Int} (hx : okH x) (hi : inI x m = true) : BesI x m x [] 0 :=
  ⟨hx, hi, Nat.le_refl _, by simp, fun z hz => by simp at hz, hx.1⟩
theorem BesI.stop {x y : Nd} {m : Int} {r : List Nd} {k : Nat} (h : BesI x m y r k) (hd : ¬ y.d < 17) : woL (17 - x.d).toNat x m = r := by
  have h17 : (17 - y.d).toNat = 0 := by omega
  have h0 : woL 0 y m = [] := by unfold woL; rw [if_pos h.isIn]
  rw [h.eq, h17, h0, List.append_nil, List.take_append_drop]
def nearN (y : Nd) (m : Int) : Nd := if m < (ndR y).a then ndL y else ndR y
def asideN (y : Nd) (m : Int) : Nd := if m < (ndR y).a then ndR y else ndL y
theorem bes_split {y : Nd} {m : Int} (hy : okH y) (hi : inI y m = true) (hd : y.d < 17) :
    (m < (ndR y).a ∧ inI (ndL y) m = true ∧ woL (17 - y.d).toNat y m = woL (17 - (y.d + 1)).toNat (ndL y) m ++ [ndR y]) ∨
    (¬ m < (ndR y).a ∧ (ndL y).a < m ∧ inI (ndR y) m = true ∧ woL (17 - y.d).toNat y m = [ndL y] ++ woL (17 - (y.d + 1)).toNat (ndR y) m) := by
  obtain ⟨hl, hla, hm2⟩ := ndL_ok hy hd
  obtain ⟨hr, hra⟩ := ndR_ok hy hd
  have hf : (17 - y.d).toNat = (17 - (y.d + 1)).toNat + 1 := by omega
  have e1 : (ndL y).d = y.d + 1 := rfl
  have e2 : (ndR y).d = y.d + 1 := rfl
  have hp := (manyI_ok (d := y.d + 1) (by have := hy.1; omega) (by omega)).2
  have hyi := inI_iff.1 hi
  have hw : woL (17 - y.d).toNat y m = woL (17 - (y.d + 1)).toNat (ndL y) m ++ woL (17 - (y.d + 1)).toNat (ndR y) m := by
    rw [hf]; conv => lhs; unfold woL
    rw [if_pos hi]
  by_cases h : m < (ndR y).a
  · have hin : inI (ndL y) m = true := inI_iff.2 ⟨by rw [hla]; exact hyi.1, by rw [hla, e1]; omega⟩
    have hno : inI (ndR y) m = false := inI_not.2 (.inl h)
    exact .inl ⟨h, hin, by rw [hw, woL_not hno]⟩
  · have hin : inI (ndR y) m = true := inI_iff.2 ⟨by omega, by rw [e2]; omega⟩
    have hno : inI (ndL y) m = false := inI_not.2 (.inr (by rw [hla, e1]; omega))
    exact .inr ⟨h, by rw [hla]; omega, hin, by rw [hw, woL_not hno]⟩
theorem BesI.step {x y : Nd} {m : Int} {r : List Nd} {k : Nat} (h : BesI x m y r k) (hd : y.d < 17) :
    ((asideN y m).a < m ∧ BesI x m (nearN y m) (r.take k ++ [asideN y m] ++ r.drop k) (k + 1)) ∨ (¬ (asideN y m).a < m ∧ BesI x m (nearN y m) (r.take k ++ [asideN y m] ++ r.drop k) k) := by
  have hlen : (r.take k ++ [asideN y m] ++ r.drop k).length = r.length + 1 := by
    have := h.le
    simp only [List.length_append, List.length_take, List.length_drop, List.length_cons, List.length_nil]; omega
  have hk : (r.take k).length = k := by rw [List.length_take]; have := h.le; omega
  have l3 : ∀ z ∈ r.take k ++ [asideN y m] ++ r.drop k, z.s.length = 32 := by
    intro z hz
    simp only [List.mem_append, List.mem_cons, List.not_mem_nil, or_false] at hz
    rcases hz with (hz | rfl) | hz
    · exact h.len3 z (List.mem_of_mem_take hz)
    · unfold asideN; split; exact rightK_length _; exact leftK_length _
    · exact h.len3 z (List.mem_of_mem_drop hz)
  rcases bes_split h.ok h.isIn hd with ⟨h1, h2, h3⟩ | ⟨h1, h1', h2, h3⟩
  · have ea : asideN y m = ndR y := by unfold asideN; rw [if_pos h1]
    have en : nearN y m = ndL y := by unfold nearN; rw [if_pos h1]
    right
    rw [ea] at hlen l3 ⊢
    rw [en]
    refine ⟨by omega, (ndL_ok h.ok hd).1, h2, by rw [hlen]; have := h.le; omega, ?_, l3, by rw [hlen]; have := h.few; show _ ≤ y.d + 1; omega⟩
    obtain ⟨t1, t2, _, _⟩ := mid_take (r.take k) (r.drop k) (ndR y) hk
    rw [h.eq, h3, t1, t2]
    simp [ndL]
  · have ea : asideN y m = ndL y := by unfold asideN; rw [if_neg h1]
    have en : nearN y m = ndR y := by unfold nearN; rw [if_neg h1]
    left
    rw [ea] at hlen l3 ⊢
    rw [en]
    refine ⟨h1', (ndR_ok h.ok hd).1, h2, by rw [hlen]; have := h.le; omega, ?_, l3, by rw [hlen]; have := h.few; show _ ≤ y.d + 1; omega⟩
    obtain ⟨_, _, t3, t4⟩ := mid_take (r.take k) (r.drop k) (ndL y) hk
    rw [h.eq, h3, t3, t4]
    simp [ndR]
theorem depthAt_eqH {w : World} {X : Nat} {x : Nd} {t : TypeId} (h : Blk w X (ndC x) t) : depthAt w X = (17 - x.d).toNat := by
  unfold depthAt; rw [ndt_d h]; rfl
set_option maxRecDepth 100000 in
set_option maxHeartbeats 3200000 in
theorem besides_any (g : Nat) (x : Nd) (m : Int) (w : World) (hx : okH x) (hi : inI x m = true) (c0 : w.cell? ⟨g, 0, none⟩ = some little) :
    Calls Try.prog 33 #[.pointer (some ⟨g, 0, none⟩), .agg (ndC x), .int .u64 m] w (RetRowN 48 34 (nvs (woL (17 - x.d).toNat x m)) w) := by
  obtain ⟨cz, hcz⟩ : ∃ cz, cz = ndC zeroNd := ⟨_, rfl⟩
  have hzh : ∀ W, (zeroValue 48).run Try.prog W = .ok (.agg cz) W := fun _ => by rw [hcz]; kernel_rfl
  have ZH : Hid (cz.size = 34) := by show _ = _; rw [hcz]; exact ndC_size rfl
  have hgw : g < w.heap.size := block_lt_of_cell c0
  have b1 : Blk (w.alloc (.cells (ndC x) 48)) w.heap.size (ndC x) 48 := heap_alloc_new _ _
  have hb : Below w.heap.size w (w.alloc (.cells (ndC x) 48)) := (Below.refl _ _).alloc (Nat.le_refl _) _
  have B1 := Lib.hid b1
  have BB := Lib.hid hb
  have HX := Lib.hid hx
  have HI := Lib.hid hi
  have HC0 := Lib.hid c0
  clear b1 hb hx hi c0 hcz
  go_enter Try.func33, Try.ntmps33
  go_wp2_with fail
  refine (toward_any g m _).mono ?_
  rintro e w2 ⟨p1, p2, rfl, h1, h2, l1, l2, bw⟩
  have hs1 : (w.alloc (.cells (ndC x) 48)).heap.size = w.heap.size + 1 := by simp
  have f1 : Blk w2 w.heap.size (ndC x) 48 := B1.out.below bw
  have fb : Below w.heap.size w w2 := BB.out.trans (bw.mono (by omega))
  rw [hs1] at l1 l2
  have q1 := h1.lt
  have q2 := h2.lt
  have F1 := Lib.hid f1
  have FB := Lib.hid fb
  have H1 := Lib.hid h1
  have H2 := Lib.hid h2
  clear h1 h2 bw f1 fb B1 BB hs1
  go_wp2_with fail
  go_loopw [7, 9, 10, 11] (fun o i _ _ wr => ∃ y r k A1 n1 c1, o = .slice A1 n1 c1 ∧ i = .int .i64 (k : Nat) ∧ Hid (BesI x m y r k) ∧ Hid (r.length = n1) ∧ Blk wr w.heap.size (ndC y) 48 ∧ Blk wr p1 #[.pointer (some ⟨g, 0, none⟩)] 27 ∧ Blk wr p2 #[.int .u64 m] 25 ∧ wr.ownsRow w2.heap.size 48 34 (.slice A1 n1 c1) n1 (nvs r) ∧ Below w.heap.size w wr ∧ w2.heap.size ≤ wr.heap.size) (fun _ _ _ _ wr => depthAt wr w.heap.size)
  case atStart => exact ⟨x, [], 0, none, 0, 0, rfl, rfl, BesI.start HX.out HI.out, rfl, F1.out, H1.out, H2.out, World.ownsRow_nil _ _ _ _, FB.out, Nat.le_refl _⟩
  case round =>
    clear F1 FB H1 H2
    obtain ⟨y, r, k, A1, n1, c1, rfl, rfl, HBI, HRL, f1, h1, h2, ho, fb, hsz⟩ := hrel
    by_cases h17 : y.d < 17
    · have c0 := ndt_d f1
      have hy := HBI.out.ok
      obtain ⟨y', hy'⟩ : ∃ y', y' = nearN y m := ⟨_, rfl⟩
      obtain ⟨z, hz⟩ : ∃ z, z = asideN y m := ⟨_, rfl⟩
      have HIY : Hid ((Try.prog.info? 48).map (·.size) = some (ndC y).size) := by rw [ndC_size hy.2.2.2.2.2]; exact info_held
      have HY := Lib.hid hy
      have HN := Lib.hid hy'
      have HZ := Lib.hid hz
      have HC := Lib.hid ((fb.cell hgw).trans HC0.out)
      have F1 := Lib.hid f1
      have H1 := Lib.hid h1
      have H2 := Lib.hid h2
      have HO := Lib.hid ho
      have FB := Lib.hid fb
      clear hy hy' hz f1 h1 h2 ho fb
      go_wp2_with (refine wpList_load_row rfl 48 (.tmp 4) rfl w.heap.size rfl 48 (ndC y) (0, 0) _ F1.out Try.underlying48 rfl HIY.out ?_)
      refine (spl_any g p1 p2 y m _ HY.out h17 HC.out H1.out H2.out y' z HN.out HZ.out).mono ?_
      rintro e w3 ⟨rfl, bw⟩
      have hy'ok : okH y' := by
        rw [HN.out]; unfold nearN; split
        · exact (ndL_ok HY.out h17).1
        · exact (ndR_ok HY.out h17).1
      have hz3 : z.s.length = 32 := by rw [HZ.out]; unfold asideN; split; exact rightK_length _; exact leftK_length _
      have HY3 : Hid (y'.s.length = 32) := hy'ok.2.2.2.2.2
      have HZ3 := Lib.hid hz3
      have HIN : Hid ((Try.prog.info? 48).map (·.size) = some (ndC y').size) := by rw [ndC_size HY3.out]; exact info_held
      have HIZ : Hid ((Try.prog.info? 48).map (·.size) = some (ndC z).size) := by rw [ndC_size HZ3.out]; exact info_held
      obtain ⟨ie, hie, hz0, hz1, hz2⟩ := info_parts info_heldW
      have D1 := Lib.hid (F1.out.below bw)
      have D2 := Lib.hid (H1.out.below bw)
      have D3 := Lib.hid (H2.out.below bw)
      have DO := Lib.hid (own_belowN HO.out bw)
      have DB := Lib.hid (FB.out.trans (bw.mono FB.out.size))
      have hs3 : w2.heap.size ≤ w3.heap.size := Nat.le_trans hsz bw.size
      have hf3 : w.heap.size < w3.heap.size := D1.out.lt
      have hdd := depthAt_eqH F1.out
      have HDD := Lib.hid hdd
      have HBS := Lib.hid (HBI.out.step h17)
      have HFW := Lib.hid HBI.out.few
      have HLE := Lib.hid HBI.out.le
      have HL3 := Lib.hid HBI.out.len3
      rw [← HN.out, ← HZ.out] at HBS
      clear bw F1 H1 H2 HO FB c0 hy'ok hz3 hdd HC
      go_wp2_with (first
        | (refine wpList_store_row rfl 48 (.tmp 10) (.tmp 22) rfl w3.heap.size (ndC y') rfl rfl 48 cz (heap_alloc2_old _ _ _) HIN.out (by rw [ndC_size HY3.out, ZH.out]) (ndC_one _) ?_
           generalize hwx : World.setRow _ _ _ = wx
           have e1 : Blk wx w3.heap.size (ndC y') 48 := by rw [← hwx]; exact setRow_heap _ _ _ _ _ _ (heap_alloc2_old _ _ _)
           have e2 : Blk wx (w3.heap.size + 1) cz 48 := by rw [← hwx]; exact blk_row (heap_alloc2_new _ _ _) (by omega)
           have eb : Below w3.heap.size w3 wx := by rw [← hwx]; exact below_setRow (((Below.refl _ _).alloc (Nat.le_refl _) _).alloc (by simp) _) (Nat.le_refl _) _
           have E1 := Lib.hid e1
           have E2 := Lib.hid e2
           have EB := Lib.hid eb
           clear hwx e1 e2 eb)
        | (refine wpList_store_row rfl 48 (.tmp 11) (.tmp 23) rfl (w3.heap.size + 1) (ndC z) rfl rfl 48 cz E2.out HIZ.out (by rw [ndC_size HZ3.out, ZH.out]) (ndC_one _) ?_
           generalize hwy : World.setRow _ _ _ = wy
           have e1 : Blk wy w3.heap.size (ndC y') 48 := by rw [← hwy]; exact blk_row E1.out (by omega)
           have e2 : Blk wy (w3.heap.size + 1) (ndC z) 48 := by rw [← hwy]; exact setRow_heap _ _ _ _ _ _ E2.out
           have eb : Below w3.heap.size w3 wy := by rw [← hwy]; exact below_setRow EB.out (by omega) _
           have G1 := Lib.hid e1
           have G2 := Lib.hid e2
           have GB := Lib.hid eb
           have gs : w3.heap.size + 1 < wy.heap.size := e2.lt
           clear hwy e1 e2 eb E1 E2 EB)
        | (refine wpList_load_row rfl 48 (.tmp 11) rfl (w3.heap.size + 1) rfl 48 (ndC z) (0, 0) _ G2.out Try.underlying48 rfl HIZ.out ?_)
        | (refine wpList_buildSlice rfl 40 48 1 #[(0, .tmp 26)] rfl (ndC z) ie _ Try.underlying40 hie hz0 (by rw [hz1]; omega) (by rw [hz1]; omega) (by rw [hz1]; simp only [List.map_toArray, List.map_cons, List.map_nil]; exact one_fill z HZ3.out) ?_
           have ho1 := World.ownsRow_lit (base := wy.heap.size) (size := 34) (e := 48) wy (ndC z) 1 (Nat.le_refl _) (by unfold maxLen; omega) (by rw [ndC_size HZ3.out])
           have ho2 := own_belowN (own_belowN DO.out GB.out) ((Below.refl wy.heap.size wy).alloc (Nat.le_refl _) (.cells (ndC z) 48))
           have O1 := Lib.hid ho1
           have O2 := Lib.hid ho2
           clear ho1 ho2))
      have hown := own_loN DO.out
      have HLO := Lib.hid hown
      have hzo : (wy.alloc (.cells (ndC z) 48)).ownsRow 0 48 34 (.slice (some ⟨wy.heap.size, 0, none⟩) 1 1) 1 (nvs [z]) := by
        have := own_moreN O1.out (Nat.zero_le _)
        rw [nvs, nvs, List.append_nil]; exact this
      have HZO := Lib.hid hzo
      clear hown hzo
      refine (insert_any A1 (some ⟨wy.heap.size, 0, none⟩) n1 c1 k 1 1 r [z] _ HRL.out HL3.out (by have := HLE.out; have := HRL.out; omega) (own_moreN O2.out (Nat.zero_le _)) HZO.out rfl (fun u hu => by rw [List.mem_singleton] at hu; rw [hu]; exact HZ3.out) (by have := HFW.out; have := HRL.out; omega)
        (fun q hq hq' => by have := (HLO.out q hq).2; injection hq' with hq'; have hq'' : wy.heap.size = q := hq'; omega)).mono ?_
      rintro e w5 ⟨A3, c3, rfl, ho5, hbut, hblk⟩
      have hws : (wy.alloc (.cells (ndC z) 48)).heap.size = wy.heap.size + 1 := by simp
      have P0 := Lib.hid (own_upN (base' := w2.heap.size) ho5 (fun q hq => by
        rcases hblk q hq with h | h
        · exact (HLO.out q h).1
        · omega))
      have BW : Below w3.heap.size w3 (wy.alloc (.cells (ndC z) 48)) := GB.out.alloc (by omega) _
      have P1 := Lib.hid ((D1.out.below BW).but hbut (fun h => by have := (HLO.out _ h).1; omega))
      have P2 := Lib.hid ((D2.out.below BW).but hbut (fun h => by have := (HLO.out _ h).1; omega))
      have P3 := Lib.hid ((D3.out.below BW).but hbut (fun h => by have := (HLO.out _ h).1; omega))
      have P4 := Lib.hid ((show Blk (wy.alloc (.cells (ndC z) 48)) w3.heap.size (ndC y') 48 from blk_old1 G1.out).but hbut (fun h => by have := (HLO.out _ h).2; omega))
      have p5 := (show Blk (wy.alloc (.cells (ndC z) 48)) (w3.heap.size + 1) (ndC z) 48 from blk_old1 G2.out).but hbut (fun h => by have := (HLO.out _ h).2; omega)
      have P5 := Lib.hid p5
      have PB := Lib.hid ((DB.out.trans (BW.mono DB.out.size)).trans (hbut.below (B := w.heap.size) (fun q hq h => by have := (HLO.out q h).1; omega) (by omega)))
      have hs5 : w2.heap.size ≤ w5.heap.size := by have := hbut.size; omega
      have c1 := ndt_a p5
      have hX5 := P1.out.lt
      clear ho5 hbut hblk BW p5 O1 O2 HZO G1 G2 GB D1 D2 D3 DO DB
      have hlen : (r.take k ++ [z] ++ r.drop k).length = n1 + 1 := by
        have := HLE.out
        rw [← HRL.out]
        simp only [List.length_append, List.length_take, List.length_drop, List.length_cons, List.length_nil]; omega
      have HLN := Lib.hid hlen
      have hs0 : Below w.heap.size w (w5.setRow w.heap.size (ndC y')) := below_setRow PB.out (Nat.le_refl _) _
      have hs2 : Blk (w5.setRow w.heap.size (ndC y')) w.heap.size (ndC y') 48 := setRow_heap _ _ _ _ _ _ P1.out
      have hs3' : (w5.setRow w.heap.size (ndC y')).ownsRow w2.heap.size 48 34 (.slice A3 (n1 + 1) c3) (n1 + 1) (nvs (r.take k ++ [z] ++ r.drop k)) :=
        Own.but (S := (· = w.heap.size)) P0.out (But.setRow (S := (· = w.heap.size)) (But.refl w5) (.inl rfl) (ndC y')) (fun q hq h => by have := (own_loN P0.out q hq).1; omega)
      have hsz5 : (w5.setRow w.heap.size (ndC y')).heap.size = w5.heap.size := by simp [World.setRow]
      have R0 := Lib.hid hs0
      have R1 := Lib.hid hs2
      have R2 := Lib.hid (show Blk (w5.setRow w.heap.size (ndC y')) p1 _ _ from blk_row P2.out (by omega))
      have R3 := Lib.hid (show Blk (w5.setRow w.heap.size (ndC y')) p2 _ _ from blk_row P3.out (by omega))
      have R4 := Lib.hid hs3'
      have R5 := Lib.hid (show w2.heap.size ≤ (w5.setRow w.heap.size (ndC y')).heap.size by omega)
      have hdy := depthAt_eqH hs2
      have hydn : y'.d = y.d + 1 := by rw [HN.out]; unfold nearN; split <;> rfl
      have HDY := Lib.hid hdy
      have HYD := Lib.hid hydn
      clear hlen hs0 hs2 hs3' hsz5 hdy hydn
      rcases HBS.out with ⟨hlt, hbi⟩ | ⟨hlt, hbi⟩
      · have hd : decide (z.a < m) = true := decide_eq_true hlt
        have HBN := Lib.hid hbi
        have ek : IntKind.i64.wrap ((k : Int) + 1) = ((k + 1 : Nat) : Int) := by rw [IntWalk.i64_in _ (by have := hbi.ok.2.1; have := hbi.few; have := hbi.le; omega)]; omega
        clear hlt hbi HBS
        go_wp2_with (first
          | (refine wpList_load_row rfl 48 (.tmp 10) rfl w3.heap.size rfl 48 (ndC y') (0, 0) _ P4.out Try.underlying48 rfl HIN.out ?_)
          | (refine wpList_store_row rfl 48 (.tmp 4) (.tmp 35) rfl w.heap.size (ndC y') rfl rfl 48 (ndC y) P1.out HIN.out (by rw [ndC_size HY3.out, ndC_size HY.out.2.2.2.2.2]) (ndC_one _) ?_))
        try simp only [Act.put, List.setIfInBounds_toArray, List.set_cons_zero, List.set_cons_succ]
        go_roundw
        case rel => exact ⟨y', r.take k ++ [z] ++ r.drop k, k + 1, A3, n1 + 1, c3, rfl, by go_num, HBN, HLN, R1.out, R2.out, R3.out, R4.out, R0.out, R5.out⟩
        case measure => rw [HDY.out, HDD.out, HYD.out]; omega
      · have hd : decide (z.a < m) = false := decide_eq_false (by omega)
        have HBN := Lib.hid hbi
        clear hlt hbi HBS
        go_wp2_with (first
          | (refine wpList_load_row rfl 48 (.tmp 10) rfl w3.heap.size rfl 48 (ndC y') (0, 0) _ P4.out Try.underlying48 rfl HIN.out ?_)
          | (refine wpList_store_row rfl 48 (.tmp 4) (.tmp 35) rfl w.heap.size (ndC y') rfl rfl 48 (ndC y) P1.out HIN.out (by rw [ndC_size HY3.out, ndC_size HY.out.2.2.2.2.2]) (ndC_one _) ?_))
        try simp only [Act.put, List.setIfInBounds_toArray, List.set_cons_zero, List.set_cons_succ]
        go_roundw
        case rel => exact ⟨y', r.take k ++ [z] ++ r.drop k, k, A3, n1 + 1, c3, rfl, rfl, HBN, HLN, R1.out, R2.out, R3.out, R4.out, R0.out, R5.out⟩
        case measure => rw [HDY.out, HDD.out, HYD.out]; omega
    · have c0 := ndt_d f1
      go_wp2
      go_ret
      have := HBI.out.stop (by omega)
      exact ⟨A1, n1, c1, rfl, by rw [this]; exact own_moreN ho (by omega), fb⟩
end Go.Proofs.Ytkfcllcdkgnfbaa.Kt
