/-
  Texts of this seat, one behind the other: KcKDec1, Reach.
-/
import Derived.Deep.RegionHeld
import Derived.SizedLaws
import Derived.Test.YtippbjpodnnhiaaMg7
/-
  The contracts of isWhole and nodeOf: are there as many bytes as the first two tell; the node of 36 bytes.
-/
namespace Go.Proofs.Ytippbjpodnnhiaa.Kc
open Go.RowKit Kg
attribute [local go_sem ↓] Go.wp_at_zero Go.wp_at_succ
theorem rd_take {B : Nat} {w : World} {A : Option Addr} {l : List UInt8} (h : Rd B w A (bv l)) (m : Nat) : Rd B w A (bv (l.take m)) := fun k u hu => by
  refine h k u ?_
  rw [bv, List.map_take, List.getElem?_take] at hu
  split at hu
  · exact hu
  · cases hu
theorem rd_part {B : Nat} {w : World} {ad : Addr} {l : List UInt8} (h : Rd B w (some ad) (bv l)) (k m : Nat) : Rd B w (some (ad.add k)) (bv ((l.drop k).take m)) := fun j u hu => by
  rw [bv, List.map_take, List.getElem?_take] at hu
  split at hu
  · rw [List.map_drop, List.getElem?_drop] at hu
    obtain ⟨ad', e, hb, hc⟩ := h (k + j) u hu
    injection e with e; subst e
    exact ⟨_, rfl, by rw [add_block]; exact hb, by rw [add_twice]; exact hc⟩
  · cases hu
theorem add_pos (ad : Addr) {k : Nat} (h : k ≠ 0) : ad.add k = ⟨ad.block, ad.off + k, none⟩ := by unfold Addr.add; rw [if_neg h]
theorem getL_two {l : List UInt8} (h : 2 ≤ l.length) : Wi.getL (l.take 2) = manyY l := by
  match l, h with
  | b0 :: b1 :: r, _ => simp [Wi.getL, manyY]
theorem getL_one {l : List UInt8} (h : 1 ≤ l.length) : (Wi.getL (l.take 1) : Int) = (ndY l).d := by
  match l, h with
  | b0 :: r, _ => simp [Wi.getL, ndY]
theorem getL_three {l : List UInt8} (h : 4 ≤ l.length) : (Wi.getL ((l.drop 1).take 3) : Int) = (ndY l).a := by
  match l, h with
  | b0 :: b1 :: b2 :: b3 :: r, _ => simp [Wi.getL, ndY, atY]; omega
set_option maxRecDepth 100000 in
set_option maxHeartbeats 1600000 in
theorem whole_any {B : Nat} (A : Option Addr) (n c : Nat) (l : List UInt8) (w : World) (hl : l.length = n) (hc : n ≤ c) (hr : Rd B w A (bv l)) (hn : n ≤ 3000000) :
    Calls Try.prog 31 #[.slice A n c] w (fun e w' => ∃ b, e = .returned (.bool b) ∧ (b = true ↔ 2 ≤ l.length ∧ l.length = 2 + 36 * manyY l) ∧ w' = w) := by
  by_cases h2 : n < 2
  · have d2 : decide ((n : Int) < 2) = true := by simp; omega
    go_enter Try.func31, Try.ntmps31
    go_wp2_with fail
    go_ret
    exact ⟨false, rfl, by simp; omega, rfl⟩
  · have d2 : decide ((n : Int) < 2) = false := by simp; omega
    have hA : ∃ ad, A = some ad := by
      obtain ⟨ad, hA, _⟩ := hr 0 _ (bv_get (show 0 < l.length by omega))
      exact ⟨ad, hA⟩
    obtain ⟨ad, rfl⟩ := hA
    have n2 : (2 : Int) ≤ (c : Int) := by omega
    have n3 : 2 ≤ c := by omega
    have HG := Wi.wget_in (some ad) 2 c (l.take 2) w (by rw [List.length_take]; omega) (rd_take hr 2) (by omega) (by omega)
    rw [getL_two (by omega)] at HG
    obtain ⟨K, hK⟩ : ∃ K, K = manyY l := ⟨_, rfl⟩
    have hK6 : K ≤ 65535 := by
      rw [hK]; unfold manyY
      have h0 := (l.getD 0 0).toNat_lt
      have h1 := (l.getD 1 0).toNat_lt
      omega
    rw [← hK] at HG ⊢
    have e1 : IntKind.i64.wrap (K : Int) = (K : Int) := IntWalk.i64_in _ (by omega)
    have e2 : IntKind.i64.wrap ((K : Int) * 36) = (K : Int) * 36 := IntWalk.i64_in _ (by omega)
    have e3 : IntKind.i64.wrap (2 + (K : Int) * 36) = 2 + (K : Int) * 36 := IntWalk.i64_in _ (by omega)
    clear hK
    go_enter Try.func31, Try.ntmps31
    go_wp2_with fail
    refine HG.mono ?_
    rintro e w2 ⟨rfl, rfl⟩
    clear HG
    go_wp2_with fail
    go_ret
    refine ⟨_, rfl, ?_, rfl⟩
    rw [beq_iff_eq]; omega
set_option maxRecDepth 100000 in
set_option maxHeartbeats 1600000 in
theorem build_held2 (d a : Int) (W : World) : (Instr.build 61 #[(0, .int .i64 d), (1, .int .u64 a)]).run Try.prog W = .ok (.agg (ndC ⟨d, a, List.replicate 32 0⟩)) W := by kernel_rfl
theorem splice_nd (d a : Int) {s z : List UInt8} (hs : s.length = 32) (hz : z.length = 32) : (splice (ndC ⟨d, a, z⟩).toList 2 (bv s)).toArray = ndC ⟨d, a, s⟩ := by
  have e : (ndC ⟨d, a, z⟩).toList = .int .i64 d :: .int .u64 a :: bv z := rfl
  rw [e, splice]
  simp only [List.take_succ_cons, List.take_zero, List.cons_append, List.nil_append, bv_length, hs]
  rw [show 2 + 32 = 32 + 1 + 1 from rfl, List.drop_succ_cons, List.drop_succ_cons, List.drop_eq_nil_of_le (by rw [bv_length]; omega), List.append_nil]
  rfl
set_option maxRecDepth 100000 in
set_option maxHeartbeats 1600000 in
theorem nodeof_any {B : Nat} (ad : Addr) (c : Nat) (p : List UInt8) (w : World) (hl : p.length = 36) (hc : 36 ≤ c) (hB : B ≤ w.heap.size) (hr : Rd B w (some ad) (bv p)) :
    Calls Try.prog 33 #[.slice (some ad) 36 c] w (RetB (.agg (ndC (ndY p))) w) := by
  have n1 : (1 : Int) ≤ (c : Int) := by omega
  have n4 : (4 : Int) ≤ (c : Int) := by omega
  have n36 : (36 : Int) ≤ (c : Int) := by omega
  have m1 : 1 ≤ c := by omega
  have m4 : 4 ≤ c := by omega
  have c4 : ¬ c = 4 := by omega
  have hr' := hr.more hB
  have HR := Lib.hid hr'
  have HG1 := Lib.hid (fun W hW => Wi.wget_in (some ad) 1 c (p.take 1) W (by rw [List.length_take]; omega) (rd_take (hr'.below (w' := W) hW) 1) (by omega) (by omega))
  have HG3 := Lib.hid (fun W hW => Wi.wget_in (some (ad.add 1)) 3 (c - 1) ((p.drop 1).take 3) W (by rw [List.length_take, List.length_drop]; omega) (rd_part (hr'.below (w' := W) hW) 1 3) (by omega) (by omega))
  have HSR := Lib.hid (fun W hW => rd_part (hr'.below (w' := W) hW) 4 32)
  rw [getL_one (by omega)] at HG1
  rw [getL_three (by omega), add_pos _ (by omega)] at HG3
  rw [add_pos _ (by omega)] at HSR
  have hf0 := ndY_fits (show 36 ≤ p.length by omega)
  have hf : 0 ≤ (ndY p).d ∧ (ndY p).d < 256 := ⟨hf0.1, hf0.2.1⟩
  obtain ⟨s, hs⟩ : ∃ s, s = (p.drop 4).take 32 := ⟨_, rfl⟩
  have he : ndY p = ⟨(ndY p).d, (ndY p).a, s⟩ := by rw [hs]; rfl
  rw [← hs] at HSR
  have hsl : s.length = 32 := by rw [hs, List.length_take, List.length_drop]; omega
  obtain ⟨d, hd⟩ : ∃ d, d = (ndY p).d := ⟨_, rfl⟩
  obtain ⟨a, ha⟩ : ∃ a, a = (ndY p).a := ⟨_, rfl⟩
  rw [he]
  rw [← hd] at HG1 hf ⊢
  rw [← ha] at HG3 ⊢
  have e1 : IntKind.i64.wrap d = d := IntWalk.i64_in _ (by have := hf.1; have := hf.2; omega)
  obtain ⟨z, hz0⟩ : ∃ z : List UInt8, z = List.replicate 32 0 := ⟨_, rfl⟩
  have hzl : z.length = 32 := by rw [hz0]; rfl
  have hbd : ∀ W, (Instr.build 61 #[(0, .int .i64 d), (1, .int .u64 a)]).run Try.prog W = .ok (.agg (ndC ⟨d, a, z⟩)) W := fun W => by rw [hz0]; exact build_held2 d a W
  obtain ⟨cz, hcz⟩ : ∃ cz, cz = ndC zeroNd := ⟨_, rfl⟩
  have hzh : ∀ W, (zeroValue 61).run Try.prog W = .ok (.agg cz) W := fun _ => by rw [hcz]; kernel_rfl
  have ZH : Hid (cz.size = 34) := by show _ = _; rw [hcz]; exact ndC_size rfl
  obtain ⟨C0, hC0⟩ : ∃ C0, C0 = ndC ⟨d, a, z⟩ := ⟨_, rfl⟩
  obtain ⟨C1, hC1⟩ : ∃ C1, C1 = ndC ⟨d, a, s⟩ := ⟨_, rfl⟩
  have Z0 : Hid (C0.size = 34) := by show _ = _; rw [hC0]; exact ndC_size hzl
  have Z1 : Hid (C1.size = 34) := by show _ = _; rw [hC1]; exact ndC_size hsl
  have O0 : Hid ((C0.all fun x => x.oneCell') = true) := by show _ = _; rw [hC0]; exact ndC_one _
  have O1 : Hid ((C1.all fun x => x.oneCell') = true) := by show _ = _; rw [hC1]; exact ndC_one _
  have HI0 : Hid ((Try.prog.info? 61).map (·.size) = some C0.size) := by rw [Z0.out]; exact info_held
  have HI1 : Hid ((Try.prog.info? 61).map (·.size) = some C1.size) := by rw [Z1.out]; exact info_held
  have HSP : Hid ((splice C0.toList 2 (bv s)).toArray = C1) := by show _ = _; rw [hC0, hC1]; exact splice_nd d a hsl hzl
  rw [← hC0] at hbd
  have HBD := Lib.hid hbd
  rw [← hC1]
  have HSL := Lib.hid hsl
  have B0 := Lib.hid (show Below w.heap.size w (w.alloc (.cells cz 61)) from (Below.refl _ w).alloc (Nat.le_refl _) _)
  have K0 := Lib.hid (show Blk (w.alloc (.cells cz 61)) w.heap.size cz 61 from heap_alloc_new _ _)
  clear hbd hr hr' hl hf hf0 hs he hsl hd ha hz0 hzl hcz hC0 hC1 hB
  go_enter Try.func33, Try.ntmps33
  go_wp2_with fail
  refine (HG1.out _ B0.out).mono ?_
  rintro e w2 ⟨rfl, rfl⟩
  go_wp2_with fail
  refine (HG3.out _ B0.out).mono ?_
  rintro e w2 ⟨rfl, rfl⟩
  have G1 := Lib.hid (show Blk ((w.alloc (.cells cz 61)).alloc (.cells cz 61)) w.heap.size cz 61 from blk_oldL K0.out)
  have G2 := Lib.hid (show Blk ((w.alloc (.cells cz 61)).alloc (.cells cz 61)) (w.heap.size + 1) cz 61 from by have h := heap_alloc_new (w.alloc (.cells cz 61)) (.cells cz 61); rwa [World.size_alloc] at h)
  have GB := Lib.hid (show Below w.heap.size w ((w.alloc (.cells cz 61)).alloc (.cells cz 61)) from B0.out.alloc B0.out.size _)
  clear K0 B0
  go_wp2_with (first
            | (refine wpList_build rfl 61 #[(0, .tmp 21), (1, .tmp 22)] rfl (v := .agg C0) ?hbld ?_; case hbld => (simp only [List.map_toArray, List.map_cons, List.map_nil]; exact HBD.out _))
            | (refine wpList_store_row rfl 61 (.tmp 7) (.tmp 23) rfl (w.heap.size + 1) C0 rfl rfl 61 cz G2.out HI0.out (by rw [Z0.out, ZH.out]) O0.out ?_
               generalize hwx : World.setRow _ _ _ = wx
               have E1 := Lib.hid (show Blk wx w.heap.size cz 61 by rw [← hwx]; exact blk_row G1.out (by omega))
               have E2 := Lib.hid (show Blk wx (w.heap.size + 1) C0 61 by rw [← hwx]; exact setRow_heap _ _ _ _ _ _ G2.out)
               have EB := Lib.hid (show Below w.heap.size w wx by rw [← hwx]; exact below_setRow GB.out (by omega) _)
               clear hwx G1 G2 GB))
  refine wp_region_held_drew (S := fun w' => Blk w' w.heap.size cz 61 ∧ (∃ C, C.size = 34 ∧ Blk w' (w.heap.size + 1) C 61) ∧ Below w.heap.size w w') (by kernel_rfl) ⟨E1.out, ⟨C0, Z0.out, E2.out⟩, EB.out.drew⟩ (fun hh => ?_)
  have HH := Lib.hid hh
  clear hh
  refine wpAnyH_take (i := 0) (v := ?va0) rfl (by kernel_rfl) (by kernel_rfl) (by kernel_rfl) (fun _ _ _ h => h) (Or.inl ⟨by rfl, fun w' _ => ?ya0⟩) HH.out ?_
  case ya0 => (go_simp; try with_reducible rfl)
  refine wpAnyH_take (i := 1) (v := ?va1) rfl (by kernel_rfl) (by kernel_rfl) (by kernel_rfl) (fun _ _ _ h => h) (Or.inl ⟨by rfl, fun w' _ => ?ya1⟩) HH.out ?_
  case ya1 => (go_simp; try with_reducible rfl)
  try simp only [List.getElem_toArray, List.getElem_cons_succ, List.getElem_cons_zero, Act.put, List.setIfInBounds_toArray, List.set_cons_zero, List.set_cons_succ]
  refine wpAnyH_take (i := 2) (v := ?va2) rfl (by kernel_rfl) (by kernel_rfl) (by kernel_rfl) (fun _ _ _ h => h) (Or.inl ⟨by rfl, fun w' _ => ?ya2⟩) HH.out ?_
  case ya2 => (go_simp; try with_reducible rfl)
  refine wpAnyH_take (i := 3) (v := ?va3) rfl (by kernel_rfl) (by kernel_rfl) (by kernel_rfl) (fun _ _ _ h => h) (Or.inl ⟨by rfl, fun w' _ => ?ya3⟩) HH.out ?_
  case ya3 => (go_simp; try with_reducible rfl)
  try simp only [List.getElem_toArray, List.getElem_cons_succ, List.getElem_cons_zero, Act.put, List.setIfInBounds_toArray, List.set_cons_zero, List.set_cons_succ]
  refine wpAnyH_ready (rs := [4]) (by kernel_rfl) (by simp) (AllReadyH.cons rfl (fun K hK => ?_) AllReadyH.nil)
  have hrun : ∀ ty, (Builtin.copy_ #[24, 24] ty #[.slice (some ⟨w.heap.size + 1, 2, none⟩) 32 32, .slice (some ⟨ad.block, ad.off + 4, none⟩) 32 (c - 4)]).run Try.prog wx.drew = .ok (goInt 32) (wx.drew.setRow (w.heap.size + 1) C1) := fun ty => by
    have h := run_copyN (P := Try.prog) wx.drew 24 24 ty 5 1 Try.underlying24 (by kernel_rfl) (w.heap.size + 1) 2 32 32 ⟨ad.block, ad.off + 4, none⟩ 32 (c - 4) C0 61 (bv s) E2.out (by rw [bv_length, HSL.out]; rfl) (fun j v hj => by
      obtain ⟨ad', e, _, hc⟩ := HSR.out _ EB.out j v hj
      injection e with e; subst e; exact hc) (by rw [bv_length, HSL.out, Z0.out]; omega) (bv_one _)
    rw [HSP.out] at h; exact h
  refine step_copyR rfl (.tmp 25) (.tmp 27) 24 24 rfl (.slice (some ⟨w.heap.size + 1, 2, none⟩) 32 32) (.slice (some ⟨ad.block, ad.off + 4, none⟩) 32 (c - 4)) rfl rfl (hrun _) ?_
  generalize hwy : World.setRow _ _ _ = wy
  have F1 := Lib.hid (show Blk wy w.heap.size cz 61 by rw [← hwy]; exact blk_row E1.out (by omega))
  have F2 := Lib.hid (show Blk wy (w.heap.size + 1) C1 61 by rw [← hwy]; exact setRow_heap _ _ _ _ _ _ E2.out)
  have FB := Lib.hid (show Below w.heap.size w wy by rw [← hwy]; exact below_setRow EB.out.drew (by omega) _)
  refine hK.out _ _ ⟨F1.out, ⟨C1, Z1.out, F2.out⟩, FB.out⟩ (fun hh => ?_)
  clear hh hK K HH hwy hrun E1 E2 EB
  try simp only [List.getElem_toArray, List.getElem_cons_succ, List.getElem_cons_zero, Act.put, List.setIfInBounds_toArray, List.set_cons_zero, List.set_cons_succ]
  refine wpAnyH_done (by kernel_rfl) ?_ _
  go_wp2_with (first
    | (refine wpList_load_row rfl 61 (.tmp 7) rfl (w.heap.size + 1) rfl 61 C1 (0, 0) _ F2.out Try.underlying61 rfl HI1.out ?_)
    | (refine wpList_store_row rfl 61 (.tmp 2) (.tmp 29) rfl w.heap.size C1 rfl rfl 61 cz F1.out HI1.out (by rw [Z1.out, ZH.out]) O1.out ?_
       generalize hwz : World.setRow _ _ _ = wz
       have Y1 := Lib.hid (show Blk wz w.heap.size C1 61 by rw [← hwz]; exact setRow_heap _ _ _ _ _ _ F1.out)
       have YB := Lib.hid (show Below w.heap.size w wz by rw [← hwz]; exact below_setRow FB.out (Nat.le_refl _) _)
       clear hwz F1 F2 FB))
  exact bodyPost_ret (results_cell_row Try.results33 _ _ w.heap.size 61 C1 (0, 0) _ rfl Y1.out Try.underlying61 rfl HI1.out) rfl ⟨rfl, YB.out⟩
end Go.Proofs.Ytippbjpodnnhiaa.Kc
/-
  Rows of bytes that came in, with the form's own reach: each takes at most reachBytes.
-/
namespace Go.Proofs.Ytippbjpodnnhiaa
open Go.RowKit Go.ChangeShapes Go.WideShapes
section
variable {H : Type} {enc : TypeId × Value → H} {P : Program} {w : World} {base : Nat} {spare : Nat → Bool} {held : Bool}
theorem weights_all {e : TypeId} : ∀ {ds : List (DataW H)} {d : DataW H}, d ∈ ds → ∀ n ∈ d.weights P e, n ∈ DataW.weightsAll P e ds
  | d0 :: ds, d, hd, n, hn => by
    rw [DataW.weightsAll, List.mem_append]
    rcases List.mem_cons.1 hd with rfl | h
    · exact .inl hn
    · exact .inr (weights_all h n hn)
theorem isB_sized {t e fuel : Nat} {v : Value} {x : DataW H × List MemPlace} (ht : P.underlying t = some (.slice e)) (he : P.underlying e = some (.int .u8)) (hc : P.cellsOf e = 1) (hb : P.bytesOf e = 1)
    (h : DataW.trod enc P w base spare held fuel t [v] = some x) (hw : ∀ n ∈ x.1.weights P t, n ≤ reachBytes) : ∃ l, IsB w.heap.size w v l ∧ l.length ≤ reachBytes := by
  obtain ⟨l, hl⟩ := isB_of_trod ht he hc h
  refine ⟨l, hl, ?_⟩
  obtain ⟨A, c, hv, _⟩ := hl
  rcases Go.Deep.open_slice1 ht hc h with ⟨hcs, _⟩ | ⟨a, len, cap, m, n, V, D, Pl, hcs, _, _, _, _, hx, _⟩
  · simp only [List.cons.injEq, and_true] at hcs
    rw [hcs] at hv
    injection hv with _ h2 _
    omega
  · simp only [List.cons.injEq, and_true] at hcs
    rw [hcs] at hv
    injection hv with _ h2 _
    subst hx
    have h3 := hw ((((List.range len).map D).length + ((List.range (m - len)).map fun j => D (len + j)).length) * P.bytesOf e) (by simp [DataW.weights, ht])
    rw [hb, List.length_map, List.length_range] at h3
    omega
theorem isL_sized {α : Type} {R : Value → α → Prop} {t e fuel : Nat} {v : Value} {x : DataW H × List MemPlace} (ht : P.underlying t = some (.slice e)) (hc : P.cellsOf e = 1)
    (each : ∀ (n : Nat) (u : Value) (y : DataW H × List MemPlace), DataW.trod enc P w base spare held n e [u] = some y → (∀ m ∈ y.1.weights P e, m ≤ reachBytes) → ∃ l, R u l)
    (h : DataW.trod enc P w base spare held fuel t [v] = some x) (hw : ∀ n ∈ x.1.weights P t, n ≤ reachBytes) : ∃ ls, IsL w.heap.size w R v ls := by
  rcases Go.Deep.open_slice1 ht hc h with ⟨hcs, _⟩ | ⟨a, len, cap, m, n, V, D, Pl, hcs, _, hl, hm, hmm, hx0, hx⟩
  · simp only [List.cons.injEq, and_true] at hcs
    subst hcs
    exact ⟨[], none, 0, rfl, Nat.le_refl _, Nat.zero_le _, RdL.none⟩
  · simp only [List.cons.injEq, and_true] at hcs
    subst hcs
    subst hx0
    have hlm : len ≤ m := by rw [hmm]; split <;> omega
    have hwj : ∀ j, j < len → ∀ k ∈ (D j).weights P e, k ≤ reachBytes := fun j hj k hk => hw k (by
      have h1 : D j ∈ (List.range len).map D := List.mem_map.2 ⟨j, List.mem_range.2 hj, rfl⟩
      have h2 := weights_all (P := P) (e := e) h1 k hk
      simp only [DataW.weights, ht, List.mem_cons, List.mem_append]
      exact .inr (.inl h2))
    have hall : ∀ j, j ≤ len → ∃ ls : List α, ls.length = j ∧ ∀ (k : Nat) (l : α), ls[k]? = some l → R (V k) l := by
      intro j
      induction j with
      | zero => exact fun _ => ⟨[], rfl, fun k l hk => by simp at hk⟩
      | succ j ih =>
        intro hj
        obtain ⟨ls, hls, hR⟩ := ih (by omega)
        obtain ⟨l, hl'⟩ := each n (V j) _ (hx j (by omega)).2 (hwj j (by omega))
        refine ⟨ls ++ [l], by simp [hls], fun k l' hk => ?_⟩
        rcases Nat.lt_trichotomy k j with hlt | rfl | hgt
        · rw [List.getElem?_append_left (by omega)] at hk
          exact hR k l' hk
        · rw [List.getElem?_append_right (by omega), hls, Nat.sub_self] at hk
          injection hk with hk
          subst hk
          exact hl'
        · rw [List.getElem?_eq_none (by simp; omega)] at hk
          cases hk
    obtain ⟨ls, hls, hR⟩ := hall len (Nat.le_refl _)
    refine ⟨ls, some a, cap, by rw [hls], by omega, hm, (List.range len).map V, by simp [hls], fun k u hu => ?_, fun k u l hu hl' => ?_⟩
    · have hk : k < len := by have := (List.getElem?_eq_some_iff.1 hu).1; simpa using this
      have hg := (hx k (by omega)).1
      have hb := World.block_lt_of_cell? _ _ hg
      rw [add_block] at hb
      have e2 : ((List.range len).map V)[k]? = some (V k) := by simp [hk]
      exact ⟨a, rfl, hb, by rw [hg, ← hu, e2]⟩
    · have hk : k < len := by have := (List.getElem?_eq_some_iff.1 hu).1; simpa using this
      have e2 : ((List.range len).map V)[k]? = some (V k) := by simp [hk]
      rw [e2] at hu
      injection hu with hu
      subst hu
      exact hR k l hl'
/-- A []byte that came in, with its reach. -/
theorem open_bytes_sized {t e : Nat} {a : Option Addr} {len cap : Nat} {d : DataW H} {ps : List MemPlace} (ht : P.underlying t = some (.slice e)) (he : P.underlying e = some (.int .u8)) (hc : P.cellsOf e = 1) (hb : P.bytesOf e = 1)
    (h : DataW.Trod enc P w base spare held t (.slice a len cap) d ps) (hw : ∀ n ∈ d.weights P t, n ≤ reachBytes) : ∃ l : List UInt8, l.length = len ∧ len ≤ cap ∧ cap ≤ maxLen ∧ Rd w.heap.size w a (bv l) ∧ len ≤ reachBytes := by
  obtain ⟨fuel, hf⟩ := h
  obtain ⟨l, ⟨A, c, hv, h1, h2, h3⟩, h4⟩ := isB_sized ht he hc hb hf hw
  injection hv with e1 e2 e3
  subst e1; subst e2; subst e3
  exact ⟨l, rfl, h1, h2, h3, h4⟩
/-- A [][]byte that came in, with the reach of each row. -/
theorem open_rows_sized {t s e : Nat} {a : Option Addr} {len cap : Nat} {d : DataW H} {ps : List MemPlace} (ht : P.underlying t = some (.slice s)) (hs : P.underlying s = some (.slice e)) (he : P.underlying e = some (.int .u8))
    (hcs : P.cellsOf s = 1) (hc : P.cellsOf e = 1) (hb : P.bytesOf e = 1)
    (h : DataW.Trod enc P w base spare held t (.slice a len cap) d ps) (hw : ∀ n ∈ d.weights P t, n ≤ reachBytes) : ∃ ls : List (List UInt8), ls.length = len ∧ len ≤ cap ∧ cap ≤ maxLen ∧ RdB w.heap.size w a ls ∧ ∀ l ∈ ls, l.length ≤ reachBytes := by
  obtain ⟨fuel, hf⟩ := h
  obtain ⟨ls, A, c, hv, h1, h2, h3⟩ := isL_sized (R := fun u l => IsB w.heap.size w u l ∧ l.length ≤ reachBytes) ht hcs (fun _ _ _ hy hyw => isB_sized hs he hc hb hy hyw) hf hw
  injection hv with e1 e2 e3
  subst e1; subst e2; subst e3
  refine ⟨ls, rfl, h1, h2, RdL.imp h3 fun _ _ _ hh => hh.1, fun l hl => ?_⟩
  obtain ⟨vs, hvl, _, hall⟩ := h3
  obtain ⟨k, hk, rfl⟩ := List.getElem_of_mem hl
  exact (hall k (vs[k]'(by omega)) ls[k] (List.getElem?_eq_getElem (by omega)) (List.getElem?_eq_getElem hk)).2
end
end Go.Proofs.Ytippbjpodnnhiaa
