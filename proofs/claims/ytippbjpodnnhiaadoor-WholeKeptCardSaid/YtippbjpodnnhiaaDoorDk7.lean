/-
  Texts of this seat, one behind the other: KcKDec1, KcREnc, CiLit, KcNoC, KcCat, KcKEnc, ChQuart.
-/
import Derived.Deep.RegionHeld
import Derived.Test.YtippbjpodnnhiaaDoorRows
import Derived.Lib.AppendZerosOnto
import Derived.Test.YtippbjpodnnhiaaDoorDk6
/-
  The contracts of isWhole and nodeOf: are there as many bytes as the first two tell; the node of 36 bytes.
-/
namespace Go.Proofs.YtippbjpodnnhiaaDoor.Kc
open Go.RowKit Kg
attribute [local go_sem ↓] Go.wp_at_zero Go.wp_at_succ
theorem rd_take {B : Nat} {w : World} {A : Option Addr} {l : List UInt8} (h : Rd B w A (bv l)) (m : Nat) : Rd B w A (bv (l.take m)) := fun k u hu => by
  refine h k u ?_
  rw [bv, List.map_take, List.getElem?_take] at hu
  split at hu
  · exact hu
  · cases hu
theorem rd_part {B : Nat} {w : World} {ad : Addr} {l : List UInt8} (h : Rd B w (some ad) (bv l)) (k m : Nat) : Rd B w (some (ad.add k)) (bv ((l.drop k).take m)) := fun j u hu => by
  rw [bv, List.map_take, List.getElem?_take] at hu
  split at hu
  · rw [List.map_drop, List.getElem?_drop] at hu
    obtain ⟨ad', e, hb, hc⟩ := h (k + j) u hu
    injection e with e; subst e
    exact ⟨_, rfl, by rw [add_block]; exact hb, by rw [add_twice]; exact hc⟩
  · cases hu
theorem add_pos (ad : Addr) {k : Nat} (h : k ≠ 0) : ad.add k = ⟨ad.block, ad.off + k, none⟩ := by unfold Addr.add; rw [if_neg h]
theorem getL_two {l : List UInt8} (h : 2 ≤ l.length) : Wi.getL (l.take 2) = manyY l := by
  match l, h with
  | b0 :: b1 :: r, _ => simp [Wi.getL, manyY]
theorem getL_one {l : List UInt8} (h : 1 ≤ l.length) : (Wi.getL (l.take 1) : Int) = (ndY l).d := by
  match l, h with
  | b0 :: r, _ => simp [Wi.getL, ndY]
theorem getL_three {l : List UInt8} (h : 4 ≤ l.length) : (Wi.getL ((l.drop 1).take 3) : Int) = (ndY l).a := by
  match l, h with
  | b0 :: b1 :: b2 :: b3 :: r, _ => simp [Wi.getL, ndY, atY]; omega
set_option maxRecDepth 100000 in
set_option maxHeartbeats 1600000 in
theorem whole_any {B : Nat} (A : Option Addr) (n c : Nat) (l : List UInt8) (w : World) (hl : l.length = n) (hc : n ≤ c) (hr : Rd B w A (bv l)) (hn : n ≤ 3000000) :
    Calls Tryd.prog 22 #[.slice A n c] w (fun e w' => ∃ b, e = .returned (.bool b) ∧ (b = true ↔ 2 ≤ l.length ∧ l.length = 2 + 36 * manyY l) ∧ w' = w) := by
  by_cases h2 : n < 2
  · have d2 : decide ((n : Int) < 2) = true := by simp; omega
    go_enter Tryd.func22, Tryd.ntmps22
    go_wp2_with fail
    go_ret
    exact ⟨false, rfl, by simp; omega, rfl⟩
  · have d2 : decide ((n : Int) < 2) = false := by simp; omega
    have hA : ∃ ad, A = some ad := by
      obtain ⟨ad, hA, _⟩ := hr 0 _ (bv_get (show 0 < l.length by omega))
      exact ⟨ad, hA⟩
    obtain ⟨ad, rfl⟩ := hA
    have n2 : (2 : Int) ≤ (c : Int) := by omega
    have n3 : 2 ≤ c := by omega
    have HG := Wi.wget_in (some ad) 2 c (l.take 2) w (by rw [List.length_take]; omega) (rd_take hr 2) (by omega) (by omega)
    rw [getL_two (by omega)] at HG
    obtain ⟨K, hK⟩ : ∃ K, K = manyY l := ⟨_, rfl⟩
    have hK6 : K ≤ 65535 := by
      rw [hK]; unfold manyY
      have h0 := (l.getD 0 0).toNat_lt
      have h1 := (l.getD 1 0).toNat_lt
      omega
    rw [← hK] at HG ⊢
    have e1 : IntKind.i64.wrap (K : Int) = (K : Int) := IntWalk.i64_in _ (by omega)
    have e2 : IntKind.i64.wrap ((K : Int) * 36) = (K : Int) * 36 := IntWalk.i64_in _ (by omega)
    have e3 : IntKind.i64.wrap (2 + (K : Int) * 36) = 2 + (K : Int) * 36 := IntWalk.i64_in _ (by omega)
    clear hK
    go_enter Tryd.func22, Tryd.ntmps22
    go_wp2_with fail
    refine HG.mono ?_
    rintro e w2 ⟨rfl, rfl⟩
    clear HG
    go_wp2_with fail
    go_ret
    refine ⟨_, rfl, ?_, rfl⟩
    rw [beq_iff_eq]; omega
set_option maxRecDepth 100000 in
set_option maxHeartbeats 1600000 in
theorem build_held2 (d a : Int) (W : World) : (Instr.build 53 #[(0, .int .i64 d), (1, .int .u64 a)]).run Tryd.prog W = .ok (.agg (ndC ⟨d, a, List.replicate 32 0⟩)) W := by kernel_rfl
theorem splice_nd (d a : Int) {s z : List UInt8} (hs : s.length = 32) (hz : z.length = 32) : (splice (ndC ⟨d, a, z⟩).toList 2 (bv s)).toArray = ndC ⟨d, a, s⟩ := by
  have e : (ndC ⟨d, a, z⟩).toList = .int .i64 d :: .int .u64 a :: bv z := rfl
  rw [e, splice]
  simp only [List.take_succ_cons, List.take_zero, List.cons_append, List.nil_append, bv_length, hs]
  rw [show 2 + 32 = 32 + 1 + 1 from rfl, List.drop_succ_cons, List.drop_succ_cons, List.drop_eq_nil_of_le (by rw [bv_length]; omega), List.append_nil]
  rfl
set_option maxRecDepth 100000 in
set_option maxHeartbeats 1600000 in
theorem nodeof_any {B : Nat} (ad : Addr) (c : Nat) (p : List UInt8) (w : World) (hl : p.length = 36) (hc : 36 ≤ c) (hB : B ≤ w.heap.size) (hr : Rd B w (some ad) (bv p)) :
    Calls Tryd.prog 24 #[.slice (some ad) 36 c] w (RetB (.agg (ndC (ndY p))) w) := by
  have n1 : (1 : Int) ≤ (c : Int) := by omega
  have n4 : (4 : Int) ≤ (c : Int) := by omega
  have n36 : (36 : Int) ≤ (c : Int) := by omega
  have m1 : 1 ≤ c := by omega
  have m4 : 4 ≤ c := by omega
  have c4 : ¬ c = 4 := by omega
  have hr' := hr.more hB
  have HR := Lib.hid hr'
  have HG1 := Lib.hid (fun W hW => Wi.wget_in (some ad) 1 c (p.take 1) W (by rw [List.length_take]; omega) (rd_take (hr'.below (w' := W) hW) 1) (by omega) (by omega))
  have HG3 := Lib.hid (fun W hW => Wi.wget_in (some (ad.add 1)) 3 (c - 1) ((p.drop 1).take 3) W (by rw [List.length_take, List.length_drop]; omega) (rd_part (hr'.below (w' := W) hW) 1 3) (by omega) (by omega))
  have HSR := Lib.hid (fun W hW => rd_part (hr'.below (w' := W) hW) 4 32)
  rw [getL_one (by omega)] at HG1
  rw [getL_three (by omega), add_pos _ (by omega)] at HG3
  rw [add_pos _ (by omega)] at HSR
  have hf0 := ndY_fits (show 36 ≤ p.length by omega)
  have hf : 0 ≤ (ndY p).d ∧ (ndY p).d < 256 := ⟨hf0.1, hf0.2.1⟩
  obtain ⟨s, hs⟩ : ∃ s, s = (p.drop 4).take 32 := ⟨_, rfl⟩
  have he : ndY p = ⟨(ndY p).d, (ndY p).a, s⟩ := by rw [hs]; rfl
  rw [← hs] at HSR
  have hsl : s.length = 32 := by rw [hs, List.length_take, List.length_drop]; omega
  obtain ⟨d, hd⟩ : ∃ d, d = (ndY p).d := ⟨_, rfl⟩
  obtain ⟨a, ha⟩ : ∃ a, a = (ndY p).a := ⟨_, rfl⟩
  rw [he]
  rw [← hd] at HG1 hf ⊢
  rw [← ha] at HG3 ⊢
  have e1 : IntKind.i64.wrap d = d := IntWalk.i64_in _ (by have := hf.1; have := hf.2; omega)
  obtain ⟨z, hz0⟩ : ∃ z : List UInt8, z = List.replicate 32 0 := ⟨_, rfl⟩
  have hzl : z.length = 32 := by rw [hz0]; rfl
  have hbd : ∀ W, (Instr.build 53 #[(0, .int .i64 d), (1, .int .u64 a)]).run Tryd.prog W = .ok (.agg (ndC ⟨d, a, z⟩)) W := fun W => by rw [hz0]; exact build_held2 d a W
  obtain ⟨cz, hcz⟩ : ∃ cz, cz = ndC zeroNd := ⟨_, rfl⟩
  have hzh : ∀ W, (zeroValue 53).run Tryd.prog W = .ok (.agg cz) W := fun _ => by rw [hcz]; kernel_rfl
  have ZH : Hid (cz.size = 34) := by show _ = _; rw [hcz]; exact ndC_size rfl
  obtain ⟨C0, hC0⟩ : ∃ C0, C0 = ndC ⟨d, a, z⟩ := ⟨_, rfl⟩
  obtain ⟨C1, hC1⟩ : ∃ C1, C1 = ndC ⟨d, a, s⟩ := ⟨_, rfl⟩
  have Z0 : Hid (C0.size = 34) := by show _ = _; rw [hC0]; exact ndC_size hzl
  have Z1 : Hid (C1.size = 34) := by show _ = _; rw [hC1]; exact ndC_size hsl
  have O0 : Hid ((C0.all fun x => x.oneCell') = true) := by show _ = _; rw [hC0]; exact ndC_one _
  have O1 : Hid ((C1.all fun x => x.oneCell') = true) := by show _ = _; rw [hC1]; exact ndC_one _
  have HI0 : Hid ((Tryd.prog.info? 53).map (·.size) = some C0.size) := by rw [Z0.out]; exact info_held
  have HI1 : Hid ((Tryd.prog.info? 53).map (·.size) = some C1.size) := by rw [Z1.out]; exact info_held
  have HSP : Hid ((splice C0.toList 2 (bv s)).toArray = C1) := by show _ = _; rw [hC0, hC1]; exact splice_nd d a hsl hzl
  rw [← hC0] at hbd
  have HBD := Lib.hid hbd
  rw [← hC1]
  have HSL := Lib.hid hsl
  have B0 := Lib.hid (show Below w.heap.size w (w.alloc (.cells cz 53)) from (Below.refl _ w).alloc (Nat.le_refl _) _)
  have K0 := Lib.hid (show Blk (w.alloc (.cells cz 53)) w.heap.size cz 53 from heap_alloc_new _ _)
  clear hbd hr hr' hl hf hf0 hs he hsl hd ha hz0 hzl hcz hC0 hC1 hB
  go_enter Tryd.func24, Tryd.ntmps24
  go_wp2_with fail
  refine (HG1.out _ B0.out).mono ?_
  rintro e w2 ⟨rfl, rfl⟩
  go_wp2_with fail
  refine (HG3.out _ B0.out).mono ?_
  rintro e w2 ⟨rfl, rfl⟩
  have G1 := Lib.hid (show Blk ((w.alloc (.cells cz 53)).alloc (.cells cz 53)) w.heap.size cz 53 from blk_oldL K0.out)
  have G2 := Lib.hid (show Blk ((w.alloc (.cells cz 53)).alloc (.cells cz 53)) (w.heap.size + 1) cz 53 from by have h := heap_alloc_new (w.alloc (.cells cz 53)) (.cells cz 53); rwa [World.size_alloc] at h)
  have GB := Lib.hid (show Below w.heap.size w ((w.alloc (.cells cz 53)).alloc (.cells cz 53)) from B0.out.alloc B0.out.size _)
  clear K0 B0
  go_wp2_with (first
            | (refine wpList_build rfl 53 #[(0, .tmp 21), (1, .tmp 22)] rfl (v := .agg C0) ?hbld ?_; case hbld => (simp only [List.map_toArray, List.map_cons, List.map_nil]; exact HBD.out _))
            | (refine wpList_store_row rfl 53 (.tmp 7) (.tmp 23) rfl (w.heap.size + 1) C0 rfl rfl 53 cz G2.out HI0.out (by rw [Z0.out, ZH.out]) O0.out ?_
               generalize hwx : World.setRow _ _ _ = wx
               have E1 := Lib.hid (show Blk wx w.heap.size cz 53 by rw [← hwx]; exact blk_row G1.out (by omega))
               have E2 := Lib.hid (show Blk wx (w.heap.size + 1) C0 53 by rw [← hwx]; exact setRow_heap _ _ _ _ _ _ G2.out)
               have EB := Lib.hid (show Below w.heap.size w wx by rw [← hwx]; exact below_setRow GB.out (by omega) _)
               clear hwx G1 G2 GB))
  refine wp_region_held_drew (S := fun w' => Blk w' w.heap.size cz 53 ∧ (∃ C, C.size = 34 ∧ Blk w' (w.heap.size + 1) C 53) ∧ Below w.heap.size w w') (by kernel_rfl) ⟨E1.out, ⟨C0, Z0.out, E2.out⟩, EB.out.drew⟩ (fun hh => ?_)
  have HH := Lib.hid hh
  clear hh
  refine wpAnyH_take (i := 0) (v := ?va0) rfl (by kernel_rfl) (by kernel_rfl) (by kernel_rfl) (fun _ _ _ h => h) (Or.inl ⟨by rfl, fun w' _ => ?ya0⟩) HH.out ?_
  case ya0 => (go_simp; try with_reducible rfl)
  refine wpAnyH_take (i := 1) (v := ?va1) rfl (by kernel_rfl) (by kernel_rfl) (by kernel_rfl) (fun _ _ _ h => h) (Or.inl ⟨by rfl, fun w' _ => ?ya1⟩) HH.out ?_
  case ya1 => (go_simp; try with_reducible rfl)
  try simp only [List.getElem_toArray, List.getElem_cons_succ, List.getElem_cons_zero, Act.put, List.setIfInBounds_toArray, List.set_cons_zero, List.set_cons_succ]
  refine wpAnyH_take (i := 2) (v := ?va2) rfl (by kernel_rfl) (by kernel_rfl) (by kernel_rfl) (fun _ _ _ h => h) (Or.inl ⟨by rfl, fun w' _ => ?ya2⟩) HH.out ?_
  case ya2 => (go_simp; try with_reducible rfl)
  refine wpAnyH_take (i := 3) (v := ?va3) rfl (by kernel_rfl) (by kernel_rfl) (by kernel_rfl) (fun _ _ _ h => h) (Or.inl ⟨by rfl, fun w' _ => ?ya3⟩) HH.out ?_
  case ya3 => (go_simp; try with_reducible rfl)
  try simp only [List.getElem_toArray, List.getElem_cons_succ, List.getElem_cons_zero, Act.put, List.setIfInBounds_toArray, List.set_cons_zero, List.set_cons_succ]
  refine wpAnyH_ready (rs := [4]) (by kernel_rfl) (by simp) (AllReadyH.cons rfl (fun K hK => ?_) AllReadyH.nil)
  have hrun : ∀ ty, (Builtin.copy_ #[34, 34] ty #[.slice (some ⟨w.heap.size + 1, 2, none⟩) 32 32, .slice (some ⟨ad.block, ad.off + 4, none⟩) 32 (c - 4)]).run Tryd.prog wx.drew = .ok (goInt 32) (wx.drew.setRow (w.heap.size + 1) C1) := fun ty => by
    have h := run_copyN (P := Tryd.prog) wx.drew 34 34 ty 5 1 Tryd.underlying34 (by kernel_rfl) (w.heap.size + 1) 2 32 32 ⟨ad.block, ad.off + 4, none⟩ 32 (c - 4) C0 53 (bv s) E2.out (by rw [bv_length, HSL.out]; rfl) (fun j v hj => by
      obtain ⟨ad', e, _, hc⟩ := HSR.out _ EB.out j v hj
      injection e with e; subst e; exact hc) (by rw [bv_length, HSL.out, Z0.out]; omega) (bv_one _)
    rw [HSP.out] at h; exact h
  refine step_copyR rfl (.tmp 25) (.tmp 27) 34 34 rfl (.slice (some ⟨w.heap.size + 1, 2, none⟩) 32 32) (.slice (some ⟨ad.block, ad.off + 4, none⟩) 32 (c - 4)) rfl rfl (hrun _) ?_
  generalize hwy : World.setRow _ _ _ = wy
  have F1 := Lib.hid (show Blk wy w.heap.size cz 53 by rw [← hwy]; exact blk_row E1.out (by omega))
  have F2 := Lib.hid (show Blk wy (w.heap.size + 1) C1 53 by rw [← hwy]; exact setRow_heap _ _ _ _ _ _ E2.out)
  have FB := Lib.hid (show Below w.heap.size w wy by rw [← hwy]; exact below_setRow EB.out.drew (by omega) _)
  refine hK.out _ _ ⟨F1.out, ⟨C1, Z1.out, F2.out⟩, FB.out⟩ (fun hh => ?_)
  clear hh hK K HH hwy hrun E1 E2 EB
  try simp only [List.getElem_toArray, List.getElem_cons_succ, List.getElem_cons_zero, Act.put, List.setIfInBounds_toArray, List.set_cons_zero, List.set_cons_succ]
  refine wpAnyH_done (by kernel_rfl) ?_ _
  go_wp2_with (first
    | (refine wpList_load_row rfl 53 (.tmp 7) rfl (w.heap.size + 1) rfl 53 C1 (0, 0) _ F2.out Tryd.underlying53 rfl HI1.out ?_)
    | (refine wpList_store_row rfl 53 (.tmp 2) (.tmp 29) rfl w.heap.size C1 rfl rfl 53 cz F1.out HI1.out (by rw [Z1.out, ZH.out]) O1.out ?_
       generalize hwz : World.setRow _ _ _ = wz
       have Y1 := Lib.hid (show Blk wz w.heap.size C1 53 by rw [← hwz]; exact setRow_heap _ _ _ _ _ _ F1.out)
       have YB := Lib.hid (show Below w.heap.size w wz by rw [← hwz]; exact below_setRow FB.out (Nat.le_refl _) _)
       clear hwz F1 F2 FB))
  exact bodyPost_ret (results_cell_row Tryd.results24 _ _ w.heap.size 53 C1 (0, 0) _ rfl Y1.out Tryd.underlying53 rfl HI1.out) rfl ⟨rfl, YB.out⟩
end Go.Proofs.YtippbjpodnnhiaaDoor.Kc
/-
  The contract of the reference's Encode: the bytes of nodes, or that there are none.
-/
namespace Go.Proofs.YtippbjpodnnhiaaDoor.Kc
open Go.RowKit Kg
attribute [local go_sem ↓] Go.wp_at_zero Go.wp_at_succ
/-- What Encode tells. -/
def RetEnc (l : List Nd) (w : World) (e : Ending) (w' : World) : Prop :=
  Below w.heap.size w w' ∧ (((okS 0 l ∧ l.length ≤ 65535) ∧ ∃ A m c, e = .returned (.tuple #[.slice A m c, .bool true]) ∧ w'.ownsRow w.heap.size 5 1 (.slice A m c) m (bv (encB l))) ∨
    (¬ (okS 0 l ∧ l.length ≤ 65535) ∧ e = .returned (.tuple #[.slice none 0 0, .bool false])))
def hdrY (n : Nat) : List UInt8 := [byteI ((n : Int) / 256), byteI ((n : Int) % 256)]
theorem encB_hdr (l : List Nd) : encB l = hdrY l.length ++ encN l := rfl
def fourY (x : Nd) : List UInt8 := [byteI x.d, byteI (x.a / 65536), byteI (x.a / 256 % 256), byteI (x.a % 256)]
theorem nodeY_four (x : Nd) : nodeY x = fourY x ++ x.s := rfl
theorem u8_byteI {z : Int} (h0 : 0 ≤ z) (h1 : z < 256) : Value.int .u8 z = .int .u8 ((byteI z).toNat : Int) := by rw [byteI_val h0 h1]
theorem hdr_cells {n : Nat} (h : n ≤ 65535) : [Value.int .u8 ((n : Int) / 256 % 256), .int .u8 ((n : Int) % 256)] = bv (hdrY n) := by
  have e : (n : Int) / 256 % 256 = (n : Int) / 256 := by omega
  rw [e, u8_byteI (show 0 ≤ (n : Int) / 256 by omega) (by omega), u8_byteI (show 0 ≤ (n : Int) % 256 by omega) (by omega)]; rfl
theorem four_cells {x : Nd} (h : fits x) : [Value.int .u8 (x.d % 256), .int .u8 (x.a / 65536), .int .u8 (x.a / 256 % 256), .int .u8 (x.a % 256)] = bv (fourY x) := by
  obtain ⟨h0, h1, h2, h3, _⟩ := h
  have e : x.d % 256 = x.d := by omega
  rw [e, u8_byteI h0 h1, u8_byteI (show 0 ≤ x.a / 65536 by omega) (by omega), u8_byteI (show 0 ≤ x.a / 256 % 256 by omega) (by omega), u8_byteI (show 0 ≤ x.a % 256 by omega) (by omega)]; rfl
theorem addr_add (b o q : Nat) : (⟨b, o, none⟩ : Addr).add q = ⟨b, o + q, none⟩ := by unfold Addr.add; split <;> simp_all
end Go.Proofs.YtippbjpodnnhiaaDoor.Kc
/-
  The contract of the little cipher's pad: 32 bytes that hang on the key, the number and the place.
-/
namespace Go.Proofs.YtippbjpodnnhiaaDoor.Ci
open Go.RowKit
/-- A list as far as its first n are laid. -/
def layTo {α : Type} (z : α) (f : Nat → α) (N : Nat) : Nat → List α
  | 0 => List.replicate N z
  | n + 1 => (layTo z f N n).set n (f n)
theorem layTo_length {α : Type} (z : α) (f : Nat → α) (N : Nat) : ∀ n, (layTo z f N n).length = N
  | 0 => by simp [layTo]
  | n + 1 => by rw [layTo, List.length_set, layTo_length z f N n]
theorem layTo_get {α : Type} (z : α) (f : Nat → α) (N : Nat) : ∀ n j, j < n → n ≤ N → (layTo z f N n)[j]? = some (f j)
  | 0, j, h, _ => by omega
  | n + 1, j, h, h' => by
    rw [layTo]
    by_cases e : j = n
    · subst e
      rw [List.getElem?_set_self (by rw [layTo_length]; omega)]
    · rw [List.getElem?_set_ne (fun e' => e e'.symm)]
      exact layTo_get z f N n j (by omega) (by omega)
theorem layTo_all {α : Type} (z : α) (f : Nat → α) (N : Nat) : layTo z f N N = (List.range N).map f := by
  apply List.ext_getElem?
  intro j
  by_cases h : j < N
  · rw [layTo_get z f N N j h (Nat.le_refl _), List.getElem?_map, List.getElem?_range h]; rfl
  · rw [List.getElem?_eq_none (by rw [layTo_length]; omega), List.getElem?_eq_none (by simp; omega)]
/-- A number of 64 bits without a sign. -/
abbrev w64 (z : Int) : Int := IntKind.u64.wrap z
/-- A byte as such a number. -/
def wb (b : UInt8) : Int := w64 (b.toNat : Int)
/-- The little cipher's number behind so many steps. -/
def litX (k : List UInt8) (n : Int) : Nat → Int
  | 0 => w64 (w64 (w64 (wb (k.getD 0 0) + w64 (256 * wb (k.getD 1 0))) + w64 (65536 * wb (k.getD 2 0))) + 7)
  | i + 1 => w64 (w64 (w64 (w64 (litX k n i * 6364136223846793005) + 1442695040888963407) + n) + wb (k.getD i 0))
/-- Its byte. -/
def litB (x : Int) : UInt8 := UInt8.ofNat (x / 2 ^ 56 % 256).toNat
theorem litB_val (x : Int) : x / 2 ^ 56 % 256 = ((litB x).toNat : Int) := by
  rw [litB, UInt8.toNat_ofNat']; omega
/-- The little cipher's pad. -/
def litL (k : List UInt8) (n : Int) : List UInt8 := (List.range 32).map fun i => litB (litX k n (i + 1))
theorem litL_length (k : List UInt8) (n : Int) : (litL k n).length = 32 := by simp [litL]
theorem litL_lay (k : List UInt8) (n : Int) : layTo 0 (fun i => litB (litX k n (i + 1))) 32 32 = litL k n := layTo_all _ _ _
theorem info_key : (Tryd.prog.info? 23).map (·.size) = some 32 := by kernel_rfl
theorem info_blk : (Tryd.prog.info? 29).map (·.size) = some 32 := by kernel_rfl
set_option maxHeartbeats 400000 in
theorem litpad_any (key : List UInt8) (hk : key.length = 32) (n : Int) (w : World) :
    Calls Tryd.prog 57 #[.agg (bva key), .int .u64 n] w (RetB (.agg (bva (litL key n))) w) := by
  obtain ⟨z, hz0⟩ : ∃ z : List UInt8, z = List.replicate 32 0 := ⟨_, rfl⟩
  obtain ⟨b1, b2, b3, hb⟩ := three_blocks w (.cells (bva key) 23) (.cells (bva z) 29) (.cells (bva z) 29)
  have hz : ∀ W, (zeroValue 29).run Tryd.prog W = .ok (.agg (bva z)) W := fun _ => by rw [hz0]; kernel_rfl
  have Z0 := Lib.hid hz0
  have b1' : Blk _ _ _ _ := b1
  have c0 := b1'.cellb (k := 0) (by omega)
  have c1 := b1'.cellb (k := 1) (by omega)
  have c2 := b1'.cellb (k := 2) (by omega)
  obtain ⟨x0, hx0⟩ : ∃ x, x = key.getD 0 0 := ⟨_, rfl⟩
  obtain ⟨x1, hx1⟩ : ∃ x, x = key.getD 1 0 := ⟨_, rfl⟩
  obtain ⟨x2, hx2⟩ : ∃ x, x = key.getD 2 0 := ⟨_, rfl⟩
  rw [← hx0] at c0
  rw [← hx1] at c1
  rw [← hx2] at c2
  have X0 := Lib.hid hx0
  have X1 := Lib.hid hx1
  have X2 := Lib.hid hx2
  have B1 := Lib.hid b1'
  have B2 := Lib.hid (show Blk _ _ _ _ from b2)
  have B3 := Lib.hid (show Blk _ _ _ _ from b3)
  have BB := Lib.hid hb
  clear hz0 b1' b1 b2 b3 hb hx0 hx1 hx2
  go_enter Tryd.func57, Tryd.ntmps57
  go_wp2_with fail
  go_loopw [6, 7] (fun x i wr => ∃ k : Nat, k ≤ 32 ∧ i = .int .i64 k ∧ x = .int .u64 (litX key n k) ∧ Blk wr w.heap.size (bva key) 23 ∧ Blk wr (w.heap.size + 1) (bva z) 29 ∧ Blk wr (w.heap.size + 1 + 1) (bva (layTo 0 (fun i => litB (litX key n (i + 1))) 32 k)) 29 ∧ Below w.heap.size w wr) (fun _ i _ => 32 - (intOf i).toNat)
  case atStart => exact ⟨0, by omega, rfl, by rw [litX, ← X0.out, ← X1.out, ← X2.out]; rfl, B1.out, B2.out, by rw [layTo, ← Z0.out]; exact B3.out, BB.out⟩
  case round =>
    clear c0 c1 c2 hz B1 B2 B3 BB X0 X1 X2
    obtain ⟨k, hk2, rfl, rfl, B1, B2, B3, hbel⟩ := hrel
    by_cases hlt : k < 32
    · have k0 : (0 : Int) ≤ (k : Int) := by omega
      have k1 : (k : Int) < 32 := by omega
      obtain ⟨x, hx⟩ : ∃ x, x = key.getD k 0 := ⟨_, rfl⟩
      have C0 := B1.cellb (k := k) (by omega)
      rw [← hx] at C0
      obtain ⟨y, hy⟩ : ∃ y, y = (layTo 0 (fun i => litB (litX key n (i + 1))) 32 k).getD k 0 := ⟨_, rfl⟩
      have D0 := B3.cellb (k := k) (by rw [layTo_length]; omega)
      rw [← hy] at D0
      have D1 := B3.free k
      obtain ⟨X, hX⟩ : ∃ X, X = litX key n k := ⟨_, rfl⟩
      rw [← hX]
      have HX := Lib.hid hX
      have Hx := Lib.hid hx
      have G1 := Lib.hid B1
      have G2 := Lib.hid B2
      have G3 := Lib.hid B3
      clear hx hy hX B1 B2 B3
      go_wp2
      go_roundw
      case rel =>
        have hX1 : litX key n (k + 1) = IntKind.u64.wrap (IntKind.u64.wrap (IntKind.u64.wrap (IntKind.u64.wrap (X * 6364136223846793005) + 1442695040888963407) + n) + IntKind.u64.wrap ↑x.toNat) := by rw [litX, ← HX.out, ← Hx.out]; rfl
        exact ⟨k + 1, by omega, by go_num, by rw [hX1], by exact G1.out.other (by omega) _ _, by exact G2.out.other (by omega) _ _, by rw [layTo]; exact G3.out.setb k _ (int_eq (by rw [← litB_val, hX1]; rfl)), by exact hbel.setCell (by simp; omega) _⟩
      case measure => simp [intOf]; omega
    · obtain rfl : k = 32 := by omega
      rw [litL_lay] at B3
      have hi : (Tryd.prog.info? 29).map (·.size) = some (bva (litL key n)).size := by rw [bva_size, litL_length]; exact info_blk
      have Hi := Lib.hid hi
      have G2 := Lib.hid B2
      have G3 := Lib.hid B3
      clear hi B1 B2 B3
      go_wp2_with (first
        | (refine wpList_load_row rfl 29 (.tmp 5) rfl (w.heap.size + 1 + 1) rfl 29 (bva (litL key n)) (0, 0) _ G3.out Tryd.underlying29 rfl Hi.out ?_)
        | (refine wpList_store_row rfl 29 (.tmp 4) (.tmp 41) rfl (w.heap.size + 1) (bva (litL key n)) rfl rfl 29 (bva z) G2.out Hi.out (by rw [bva_size, bva_size, litL_length, Z0.out]; rfl) (bva_one _) ?_))
      exact bodyPost_ret (v := .agg (bva (litL key n))) (results_cell_row Tryd.results57 _ _ (w.heap.size + 1) 29 (bva (litL key n)) (0, 0) _ rfl (setRow_heap _ _ _ _ _ _ G2.out) Tryd.underlying29 rfl Hi.out) rfl ⟨rfl, below_setRow hbel (by omega) _⟩
end Go.Proofs.YtippbjpodnnhiaaDoor.Ci
/-
  The cipher that stands where layer 6 takes no nil, as a cipher that a tree of keys is made of.
-/
namespace Go.Proofs.YtippbjpodnnhiaaDoor.Kc
open Go.RowKit Kg
attribute [local go_sem ↓] Go.wp_at_zero Go.wp_at_succ
def noL (_ : List UInt8) : List UInt8 := List.replicate 32 0
theorem noL_length (k : List UInt8) : (noL k).length = 32 := by simp [noL]
set_option maxRecDepth 100000 in
set_option maxHeartbeats 1600000 in
theorem nos_any (X : Array Value) (k : List UInt8) (_hk : k.length = 32) (w : World) :
    Calls Tryd.prog 72 #[.agg X, .agg (bva k)] w (RetB (.tuple #[.agg (bva (noL k)), .agg (bva (noL k))]) w) := by
  obtain ⟨z, hz0⟩ : ∃ z : List UInt8, z = noL k := ⟨_, rfl⟩
  obtain ⟨b1, b2, b3, b4, hb⟩ := four_blocks w (.cells X 78) (.cells (bva k) 23) (.cells (bva z) 23) (.cells (bva z) 23)
  have hz : ∀ W, (zeroValue 23).run Tryd.prog W = .ok (.agg (bva z)) W := fun _ => by rw [hz0]; kernel_rfl
  have Z3 : Hid (z.length = 32) := by show _ = _; rw [hz0]; rfl
  have HKZ : Hid ((Tryd.prog.info? 23).map (·.size) = some (bva z).size) := by rw [bva_size, Z3.out]; exact info_keyL
  have HZ := Lib.hid hz0
  have HS := Lib.hid (show _ ∧ _ ∧ _ from ⟨(show Blk _ _ _ _ from b3), (show Blk _ _ _ _ from b4), hb.drew⟩)
  clear hz0 b1 b2 b3 b4 hb
  go_enter Tryd.func72, Tryd.ntmps72
  go_wp2_with fail
  refine wp_region_held_drew (S := fun w' => Blk w' (w.heap.size + 1 + 1) (bva z) 23 ∧ Blk w' (w.heap.size + 1 + 1 + 1) (bva z) 23 ∧ Below w.heap.size w w') (by kernel_rfl) HS.out (fun hh => ?_)
  have HH := Lib.hid hh
  clear hh
  refine wpAnyH_take (i := 0) (v := .agg (bva z)) rfl (by kernel_rfl) (by kernel_rfl) (by kernel_rfl) (fun _ _ _ h => h) (Or.inl ⟨by rfl, fun w' hw' => ?q0⟩) HH.out ?_
  case q0 => exact exec_load 23 (.tmp 4) rfl rfl hw'.1 Tryd.underlying23 rfl HKZ.out
  refine wpAnyH_take (i := 1) (v := .agg (bva z)) rfl (by kernel_rfl) (by kernel_rfl) (by kernel_rfl) (fun _ _ _ h => h) (Or.inl ⟨by rfl, fun w' hw' => ?q1⟩) HH.out ?_
  case q1 => exact exec_load 23 (.tmp 5) rfl rfl hw'.2.1 Tryd.underlying23 rfl HKZ.out
  refine wpAnyH_ready (rs := [2]) (by kernel_rfl) (by simp) (AllReadyH.cons rfl (fun K hK => ?_) AllReadyH.nil)
  rw [if_pos (by rfl)]
  refine wp_store_row 23 (.tmp 4) (.tmp 6) rfl (w.heap.size + 1 + 1) (bva z) rfl rfl 23 (bva z) HH.out.1 HKZ.out (by simp only [bva_size, Z3.out]) (bva_one _) ?_
  generalize hwx : World.setRow _ _ _ = wx
  have u1 : Blk wx (w.heap.size + 1 + 1) (bva z) 23 := by rw [← hwx]; exact setRow_heap _ _ _ _ _ _ HH.out.1
  have u2 : Blk wx (w.heap.size + 1 + 1 + 1) (bva z) 23 := by rw [← hwx]; exact blk_row HH.out.2.1 (by omega)
  have ub : Below w.heap.size w wx := by rw [← hwx]; exact below_setRow HH.out.2.2 (by omega) _
  refine hK.out _ _ ⟨u1, u2, ub⟩ (fun _ => ?_)
  have U := Lib.hid (show _ ∧ _ ∧ _ from ⟨u1, u2, ub⟩)
  clear u1 u2 ub hK K HH HS hwx
  refine wpAnyH_ready (rs := [3]) (by kernel_rfl) (by simp) (AllReadyH.cons rfl (fun K hK => ?_) AllReadyH.nil)
  rw [if_pos (by rfl)]
  refine wp_store_row 23 (.tmp 5) (.tmp 7) rfl (w.heap.size + 1 + 1 + 1) (bva z) rfl rfl 23 (bva z) U.out.2.1 HKZ.out (by simp only [bva_size, Z3.out]) (bva_one _) ?_
  generalize hwy : World.setRow _ _ _ = wy
  have u1 : Blk wy (w.heap.size + 1 + 1) (bva z) 23 := by rw [← hwy]; exact blk_row U.out.1 (by omega)
  have u2 : Blk wy (w.heap.size + 1 + 1 + 1) (bva z) 23 := by rw [← hwy]; exact setRow_heap _ _ _ _ _ _ U.out.2.1
  have ub : Below w.heap.size w wy := by rw [← hwy]; exact below_setRow U.out.2.2 (by omega) _
  refine hK.out _ _ ⟨u1, u2, ub⟩ (fun _ => ?_)
  have V1 := Lib.hid u1
  have V2 := Lib.hid u2
  have VB := Lib.hid ub
  clear u1 u2 ub hK K U hwy
  refine wpAnyH_done (by kernel_rfl) ?_ _
  go_wp2
  exact bodyPost_ret (v := .tuple #[.agg (bva z), .agg (bva z)]) (results_cells2 Tryd.results72 _ _ (w.heap.size + 1 + 1) (w.heap.size + 1 + 1 + 1) 23 23 (bva z) (bva z) _ rfl rfl V1.out V2.out Tryd.underlying23 rfl HKZ.out HKZ.out) rfl ⟨by rw [HZ.out], VB.out⟩
theorem no_method (x : Array Value) (fuel : Nat) (W : World) : (method (fuel + 1) 78 (.agg x) "Split").run Tryd.prog W = .ok (72, .agg x) W := by kernel_rfl
theorem no_calls (args : Array Value) (W : World) : (callFunc 72 args).run Tryd.prog W = .ok (.enter 72 args) W := by kernel_rfl
/-- The cipher that nothing is split or hidden by. -/
def noC : Ciph := ⟨78, .agg #[], 72, noL, noL, noL_length, noL_length, fun fuel W => no_method #[] fuel W, fun args W => no_calls args W, fun k hk W => nos_any #[] k hk W⟩
end Go.Proofs.YtippbjpodnnhiaaDoor.Kc
/-
  The contracts of slices.Grow at no bytes and of slices.Concat at rows of bytes: a new row of all of them.
-/
namespace Go.Proofs.YtippbjpodnnhiaaDoor.Kc
open Go.RowKit
attribute [local go_sem ↓] Go.wp_at_zero Go.wp_at_succ
/-- It returns a new row without bytes, that has room. -/
def RetGrow (w : World) (e : Ending) (w' : World) : Prop :=
  ∃ A c, e = .returned (.slice A 0 c) ∧ w'.ownsRow w.heap.size 5 1 (.slice A 0 c) 0 [] ∧ Below w.heap.size w w'
set_option maxRecDepth 100000 in
set_option maxHeartbeats 1600000 in
theorem grow_any (m : Nat) (w : World) (hm : m ≤ 10000000) : Calls Tryd.prog 37 #[.slice none 0 0, .int .i64 (m : Nat)] w (RetGrow w) := by
  rcases Nat.eq_zero_or_pos m with rfl | h0
  · go_enter Tryd.func37, Tryd.ntmps37
    go_wp2_with fail
    go_ret
    exact ⟨none, 0, rfl, World.ownsRow_nil _ _ _ _, Below.refl _ _⟩
  · have m0 : (m : Int) > 0 := by omega
    have m1 : IntKind.i64.wrap (m : Int) = (m : Int) := IntWalk.i64_in _ (by omega)
    obtain ⟨ie, hie, hz0, hz1, hz2⟩ := info_parts Wi.bytesElt.info
    obtain ⟨G, hG⟩ : ∃ G, G = grownCap w m 0 5 := ⟨_, rfl⟩
    have hGn : m ≤ G := by rw [hG]; exact grownCap_ge w _ _ _
    have hGm : G ≤ 9223372036854775807 := by
      have := grownCap_le_maxLen w m 0 5 (by unfold maxLen; omega)
      rw [← hG] at this
      unfold maxLen at this
      omega
    obtain ⟨R0, hR0⟩ : ∃ R0 : Array Value, R0 = #[] ++ Builtin.zeroCells (Value.int IntKind.u8 0).cells m ++ Builtin.zeroCells (Value.int IntKind.u8 0).cells (G - m) := ⟨_, rfl⟩
    have hR0s : R0.size = G * 1 := by
      rw [hR0]
      simp only [Array.size_append, size_zeroCells]
      show 0 + m * 1 + (G - m) * 1 = G * 1
      omega
    obtain ⟨N, hN⟩ : ∃ N, N = w.heap.size := ⟨_, rfl⟩
    have hrz : ∀ ty, (Builtin.append_ #[34, 3] ty #[.slice none 0 0, .int .i64 (m : Int)]).run Tryd.prog w = .ok (.slice (some ⟨N, 0, none⟩) m G) (w.drew.alloc (.cells R0 5)) := fun ty => by
      have hold : (Builtin.firstCells ie.size 0 (.slice none 0 0)).run Tryd.prog w.drew = .ok ([] : List Value).toArray w.drew := by
        rw [hz1]; simp [Builtin.firstCells]
      have hh := Lib.run_append_grow_zeros (P := Tryd.prog) w 34 3 ty 5 ie _ .i64 .i64 Tryd.underlying34 Tryd.underlying3 hie hz0 none 0 0 [] hold m h0 (by rw [hz1]; omega) (by omega) (by omega) (by rw [hz2]; omega) (by rw [hz2, show 0 + m = m by omega]; exact growslice_fits h0 (by omega))
      rw [show 0 + m = m by omega, ← hG] at hh
      rw [hN, hR0]
      exact hh
    obtain ⟨W1, hW1⟩ : ∃ W1, W1 = w.drew.alloc (.cells R0 5) := ⟨_, rfl⟩
    have g1 : W1.heap[N]? = some (.cells R0 5 (0, 0)) := by rw [hW1, hN]; exact heap_alloc_new w.drew _
    have b1 : Below w.heap.size w W1 := by rw [hW1]; exact (Below.refl _ w).drew.alloc (Nat.le_refl _) _
    rw [← hW1] at hrz
    have HRZ := Lib.hid hrz
    have HO := Lib.hid (show W1.ownsRow w.heap.size 5 1 (.slice (some ⟨N, 0, none⟩) 0 G) 0 [] from ⟨rfl, .inr ⟨N, G, R0, rfl, by omega, g1, Nat.zero_le _, by unfold maxLen; omega, hR0s, by simp⟩⟩)
    have HB := Lib.hid b1
    have hg0 : (0 : Int) ≤ (G : Int) := by omega
    clear hrz hG hR0 hR0s hN hW1 g1 b1 hie hz0 hz1 hz2
    go_enter Tryd.func37, Tryd.ntmps37
    go_wp2_with (at_builtin
                 refine wpList_appR _ rfl (.tmp 20) (.tmp 21) 34 3 rfl (.slice none 0 0) (.int .i64 (m : Int)) rfl rfl (HRZ.out _) ?_)
    go_ret
    exact ⟨_, _, rfl, HO.out, HB.out⟩
theorem flat_take (ls : List (List UInt8)) {k : Nat} (h : k < ls.length) : (ls.take (k + 1)).flatten = (ls.take k).flatten ++ ls[k] := by
  rw [List.take_succ_eq_append_getElem h, List.flatten_append, List.flatten_cons, List.flatten_nil, List.append_nil]
theorem flat_le (ls : List (List UInt8)) (k : Nat) : (ls.take k).flatten.length ≤ ls.flatten.length := by
  have e : ls.flatten = (ls.take k).flatten ++ (ls.drop k).flatten := by rw [← List.flatten_append, List.take_append_drop]
  rw [e, List.length_append]; omega
set_option maxRecDepth 100000 in
set_option maxHeartbeats 1600000 in
theorem concat_any {B : Nat} (A : Option Addr) (n c : Nat) (ls : List (List UInt8)) (w : World) (hl : ls.length = n) (hB : B ≤ w.heap.size) (hr : RdB B w A ls) (hn : n ≤ 1000000) (hf : ls.flatten.length ≤ 1000000) :
    Calls Tryd.prog 32 #[.slice A n c] w (RetRow 5 (bv ls.flatten) w) := by
  have HL := Lib.hid hl
  have HR := Lib.hid (hr.more hB)
  clear hr hB
  go_enter Tryd.func32, Tryd.ntmps32
  go_wp2_with fail
  go_loopw [3, 5, 11] (fun o _ i wr => ∃ k s : Nat, k ≤ n ∧ i = .int .i64 k ∧ o = .int .i64 (s : Nat) ∧ Hid (s = (ls.take k).flatten.length) ∧ wr = w) (fun _ _ i _ => n - (intOf i).toNat)
  case atStart => exact ⟨0, 0, by omega, rfl, rfl, rfl, rfl⟩
  case round =>
    obtain ⟨k, s, hk, rfl, rfl, HS, hw⟩ := hrel
    have hw' := hw.symm
    clear hw
    subst hw'
    by_cases hlt : k < n
    · have hkl : k < ls.length := by omega
      obtain ⟨ad, A', c', hA, _, hcell, _, _, _⟩ := HR.out.at_ hkl
      subst hA
      obtain ⟨q, hq⟩ : ∃ q, q = ls[k].length := ⟨_, rfl⟩
      have hfl := flat_take ls hkl
      have hle := flat_le ls (k + 1)
      rw [hfl, List.length_append, ← HS.out, ← hq] at hle
      have HQ := Lib.hid (show s + q = (ls.take (k + 1)).flatten.length by rw [hfl, List.length_append, ← HS.out, ← hq])
      rw [← hq] at hcell
      have k0 : (0 : Int) ≤ (k : Int) := by omega
      have k1 : (k : Int) < (n : Int) := by omega
      have e1 : IntKind.i64.wrap ((s : Int) + (q : Int)) = ((s + q : Nat) : Int) := by rw [IntWalk.i64_in _ (by omega)]; omega
      have e2 : ¬ ((s + q : Nat) : Int) < 0 := by omega
      have ek : IntKind.i64.wrap ((k : Int) + 1) = ((k + 1 : Nat) : Int) := by rw [IntWalk.i64_in _ (by omega)]; omega
      clear hfl hq
      go_wp2_with fail
      go_roundw
      case rel => exact ⟨k + 1, s + q, by omega, by go_num, by go_num, HQ, by first | rfl | trivial⟩
      case measure => simp [intOf]; omega
    · obtain rfl : n = k := by omega
      have hs : s = ls.flatten.length := by rw [HS.out, List.take_of_length_le (by omega)]
      have HSF := Lib.hid hs
      have hs2 : s ≤ 10000000 := by omega
      clear hs HS
      go_wp2_with fail
      refine (grow_any s w hs2).mono ?_
      rintro e w2 ⟨A1, c1, rfl, ho, hb⟩
      have HO := Lib.hid ho
      have HB := Lib.hid hb
      clear ho hb
      go_wp2_with fail
      go_loopw [6, 8, 27] (fun o _ i wx => ∃ k m A2 c2, k ≤ n ∧ i = .int .i64 (k : Nat) ∧ o = .slice A2 m c2 ∧ Hid (m = (ls.take k).flatten.length) ∧ wx.ownsRow w.heap.size 5 1 (.slice A2 m c2) m (bv (ls.take k).flatten) ∧ Below w.heap.size w wx) (fun _ _ i _ => n - (intOf i).toNat)
      case atStart => exact ⟨0, 0, A1, c1, by omega, rfl, rfl, rfl, HO.out, HB.out⟩
      case round =>
        clear HO HB
        obtain ⟨k, m, A2, c2, hk, rfl, rfl, HM, ho, hb⟩ := hrel
        by_cases hlt : k < n
        · have hkl : k < ls.length := by omega
          obtain ⟨ad, A', c', hA, _, hcell, _, _, hrow⟩ := (HR.out.below hb).at_ hkl
          subst hA
          obtain ⟨q, hq⟩ : ∃ q, q = ls[k].length := ⟨_, rfl⟩
          obtain ⟨y, hy⟩ : ∃ y, y = ls[k] := ⟨_, rfl⟩
          have hfl := flat_take ls hkl
          have hle := flat_le ls (k + 1)
          rw [hfl, List.length_append, ← HM.out, ← hq] at hle
          rw [← hy] at hfl hrow
          have HQ := Lib.hid (show m + q = (ls.take (k + 1)).flatten.length by rw [hfl, List.length_append, ← HM.out, hq, hy])
          rw [← hq] at hcell
          have hyl : y.length = q := by rw [hq, hy]
          have HFL := Lib.hid hfl
          have HW := Lib.hid hrow
          have HO := Lib.hid ho
          have HB := Lib.hid hb
          have hmq : m + q ≤ 1000000 := by omega
          have k0 : (0 : Int) ≤ (k : Int) := by omega
          have k1 : (k : Int) < (n : Int) := by omega
          have ek : IntKind.i64.wrap ((k : Int) + 1) = ((k + 1 : Nat) : Int) := by rw [IntWalk.i64_in _ (by omega)]; omega
          clear hfl hq hrow ho hb hy
          go_wp2_with (at_builtin
                       refine wpList_app _ rfl (.tmp 31) (.tmp 32) _ rfl Wi.bytesElt (base := w.heap.size) (v := .slice A2 m c2) rfl HO.out (m := q) rfl HW.out (by rw [bv_length, hyl]) (bv_one _) ?_ ?_ ?_
                       · omega
                       · exact HB.out.size
                       intro A3 c3 w3 ho3 hg3 _
                       have hb3 := app_below HB.out HO.out hg3 (Nat.le_refl _) HB.out.size
                       have O3 := Lib.hid ho3
                       have B3 := Lib.hid hb3
                       clear ho3 hg3 hb3 HO HB)
          go_roundw
          case rel => exact ⟨k + 1, m + q, A3, c3, by omega, by go_num, rfl, HQ, own_eq O3.out rfl (by rw [HFL.out, bv_append]), B3.out⟩
          case measure => simp [intOf]; omega
        · obtain rfl : n = k := by omega
          rw [List.take_of_length_le (by omega)] at ho
          have HO := Lib.hid ho
          have HB := Lib.hid hb
          clear ho hb
          go_wp2_with fail
          go_ret
          exact RetRow.mk rfl HO.out HB.out
end Go.Proofs.YtippbjpodnnhiaaDoor.Kc
/-
  The contract of the code's Encode: the bytes of nodes; or that they may not be held; or that they are too many.
-/
namespace Go.Proofs.YtippbjpodnnhiaaDoor.Kc
open Go.RowKit Kg
attribute [local go_sem ↓] Go.wp_at_zero Go.wp_at_succ
set_option maxRecDepth 100000 in
set_option maxHeartbeats 1600000 in
theorem maybe_any {B : Nat} (A : Option Addr) (n c : Nat) (l : List Nd) (w : World) (hl : l.length = n) (h3 : ∀ x ∈ l, x.s.length = 32) (ha : ∀ x ∈ l, 0 ≤ x.a) (hB : B ≤ w.heap.size) (hr : Rd B w A (nvs l)) (hn : n ≤ 1000000) :
    Calls Tryd.prog 18 #[.slice A n c] w (fun e w' => ∃ b, e = .returned (.bool b) ∧ (b = true ↔ okS 0 l) ∧ Below w.heap.size w w') := by
  have HF := from_any (ci := noC) A n c l w hl h3 ha hB hr hn
  have hb : ∀ W, (Instr.build 78 #[]).run Tryd.prog W = .ok (.agg #[]) W := fun W => by kernel_rfl
  clear hl h3 ha hB hr hn
  go_enter Tryd.func18, Tryd.ntmps18
  go_wp2_with fail
  refine HF.mono ?_
  rintro e w2 ⟨⟨hok, g, F, rfl, _, _⟩ | ⟨hno, rfl⟩, bw⟩
  · clear HF
    go_wp2_with fail
    go_ret
    exact ⟨true, rfl, by simp [hok], bw⟩
  · clear HF
    go_wp2_with fail
    go_ret
    exact ⟨false, rfl, by simp [hno], bw⟩
theorem rdB_three {W : World} (t : TypeId) {v1 v2 v3 : Value} {l1 l2 l3 : List UInt8} (h1 : IsB W.heap.size W v1 l1) (h2 : IsB W.heap.size W v2 l2) (h3 : IsB W.heap.size W v3 l3) :
    RdB (W.heap.size + 1) (W.alloc (.cells #[v1, v2, v3] t)) (some ⟨W.heap.size, 0, none⟩) [l1, l2, l3] := by
  have hb : Below W.heap.size W (W.alloc (.cells #[v1, v2, v3] t)) := (Below.refl _ _).alloc (Nat.le_refl _) _
  refine ⟨[v1, v2, v3], rfl, Rd.lit W t [v1, v2, v3], ?_⟩
  intro k v l hv hl
  match k with
  | 0 => cases hv; cases hl; exact (h1.below hb).more (by omega)
  | 1 => cases hv; cases hl; exact (h2.below hb).more (by omega)
  | 2 => cases hv; cases hl; exact (h3.below hb).more (by omega)
  | k + 3 => cases hv
theorem putL_one {d : Int} (h0 : 0 ≤ d) (h1 : d < 256) : Wi.putL d.toNat 1 = [byteI d] := by
  have : d.toNat % 256 = d.toNat := by omega
  simp [Wi.putL, byteI, List.range_succ, this]
theorem putL_three {a : Int} (h0 : 0 ≤ a) (h1 : a < 16777216) : Wi.putL a.toNat 3 = [byteI (a / 65536), byteI (a / 256 % 256), byteI (a % 256)] := by
  have e1 : a.toNat / 65536 % 256 = (a / 65536).toNat := by omega
  have e2 : a.toNat / 256 % 256 = (a / 256 % 256).toNat := by omega
  have e3 : a.toNat % 256 = (a % 256).toNat := by omega
  simp [Wi.putL, byteI, List.range_succ, e1, e2, e3]
theorem putL_two {n : Nat} (h : n ≤ 65535) : Wi.putL n 2 = hdrY n := by
  have e1 : n / 256 % 256 = ((n : Int) / 256).toNat := by omega
  have e2 : n % 256 = ((n : Int) % 256).toNat := by omega
  simp [Wi.putL, hdrY, byteI, List.range_succ, e1, e2]
set_option maxRecDepth 100000 in
set_option maxHeartbeats 1600000 in
theorem nodebytes_any (x : Nd) (hx : fits x) (w : World) : Calls Tryd.prog 20 #[.agg (ndC x)] w (RetRow 5 (bv (nodeY x)) w) := by
  obtain ⟨D0, D1', E0, E1', hs⟩ := hx
  have D1 : x.d < 18446744073709551616 := by omega
  have E1 : x.a < 18446744073709551616 := by omega
  have q0 : IntKind.u64.wrap x.d = x.d := IntWalk.u64_in _ (by omega)
  have S0 := Lib.hid (show Blk (w.alloc (.cells (ndC x) 53)).drew w.heap.size (ndC x) 53 ∧ Below w.heap.size w (w.alloc (.cells (ndC x) 53)).drew from ⟨heap_alloc_new _ _, ((Below.refl _ w).alloc (Nat.le_refl _) _).drew⟩)
  have HS := Lib.hid hs
  clear hs
  go_enter Tryd.func20, Tryd.ntmps20
  go_wp2_with fail
  refine wp_region_held_drew (S := fun w' => Blk w' w.heap.size (ndC x) 53 ∧ Below w.heap.size w w') (by kernel_rfl) S0.out (fun hh => ?_)
  have HH := Lib.hid hh
  clear hh
  refine wpAnyH_take (i := 0) (v := ?va0) rfl (by kernel_rfl) (by kernel_rfl) (by kernel_rfl) (fun _ _ _ h => h) (Or.inl ⟨by rfl, fun w' _ => ?ya0⟩) HH.out ?_
  case ya0 => (go_simp; try with_reducible rfl)
  refine wpAnyH_take (i := 1) (v := .int .i64 x.d) rfl (by kernel_rfl) (by kernel_rfl) (by kernel_rfl) (fun _ _ _ h => h) (Or.inl ⟨by rfl, fun w' hw' => ?ya1⟩) HH.out ?_
  case ya1 => (have c0 := ndt_d hw'.1; go_simp; try with_reducible rfl)
  try simp only [List.getElem_toArray, List.getElem_cons_succ, List.getElem_cons_zero, Act.put, List.setIfInBounds_toArray, List.set_cons_zero, List.set_cons_succ]
  refine wpAnyH_take (i := 2) (v := ?va2) rfl (by kernel_rfl) (by kernel_rfl) (by kernel_rfl) (fun _ _ _ h => h) (Or.inl ⟨by rfl, fun w' _ => ?ya2⟩) HH.out ?_
  case ya2 => (go_simp; try with_reducible rfl)
  refine wpAnyH_take (i := 4) (v := ?va4) rfl (by kernel_rfl) (by kernel_rfl) (by kernel_rfl) (fun _ _ _ h => h) (Or.inl ⟨by rfl, fun w' _ => ?ya4⟩) HH.out ?_
  case ya4 => (go_simp; try with_reducible rfl)
  refine wpAnyH_take (i := 5) (v := .int .u64 x.a) rfl (by kernel_rfl) (by kernel_rfl) (by kernel_rfl) (fun _ _ _ h => h) (Or.inl ⟨by rfl, fun w' hw' => ?ya5⟩) HH.out ?_
  case ya5 => (have c0 := ndt_a hw'.1; go_simp; try with_reducible rfl)
  try simp only [List.getElem_toArray, List.getElem_cons_succ, List.getElem_cons_zero, Act.put, List.setIfInBounds_toArray, List.set_cons_zero, List.set_cons_succ]
  refine wpAnyH_ready (rs := [3]) (by kernel_rfl) (by simp) (AllReadyH.cons rfl (fun K hK => ?_) AllReadyH.nil)
  go_simp
  refine (Wi.wput_in x.d 1 _ D0 D1 (by omega) (by omega)).mono ?_
  rintro e w1 ⟨A1, n1, c1, rfl, ho, bw⟩
  have O1 := Lib.hid (own_more ho HH.out.2.size)
  go_simp
  refine hK.out _ _ ⟨HH.out.1.below bw, HH.out.2.trans (bw.mono HH.out.2.size)⟩ (fun hh => ?_)
  have HH' := Lib.hid hh
  clear hh hK K HH ho bw
  have HH := Lib.hid HH'.out
  clear HH'
  try simp only [List.getElem_toArray, List.getElem_cons_succ, List.getElem_cons_zero, Act.put, List.setIfInBounds_toArray, List.set_cons_zero, List.set_cons_succ]
  refine wpAnyH_ready (rs := [6]) (by kernel_rfl) (by simp) (AllReadyH.cons rfl (fun K hK => ?_) AllReadyH.nil)
  go_simp
  refine (Wi.wput_in x.a 3 _ E0 E1 (by omega) (by omega)).mono ?_
  rintro e w2 ⟨A2, n2, c2, rfl, ho, bw⟩
  have O2 := Lib.hid (own_more ho HH.out.2.size)
  have P1 := Lib.hid (own_below O1.out bw)
  clear O1
  go_simp
  refine hK.out _ _ ⟨HH.out.1.below bw, HH.out.2.trans (bw.mono HH.out.2.size)⟩ (fun hh => ?_)
  have HH' := Lib.hid hh
  clear hh hK K HH ho bw
  have HH := Lib.hid HH'.out
  clear HH'
  refine wpAnyH_take (i := 7) (v := ?va7) rfl (by kernel_rfl) (by kernel_rfl) (by kernel_rfl) (fun _ _ _ h => h) (Or.inl ⟨by rfl, fun w' _ => ?ya7⟩) HH.out ?_
  case ya7 => (go_simp; try with_reducible rfl)
  try simp only [List.getElem_toArray, List.getElem_cons_succ, List.getElem_cons_zero, Act.put, List.setIfInBounds_toArray, List.set_cons_zero, List.set_cons_succ]
  refine wpAnyH_take (i := 8) (v := ?va8) rfl (by kernel_rfl) (by kernel_rfl) (by kernel_rfl) (fun _ _ _ h => h) (Or.inl ⟨by rfl, fun w' _ => ?ya8⟩) HH.out ?_
  case ya8 => (go_simp; try with_reducible rfl)
  try simp only [List.getElem_toArray, List.getElem_cons_succ, List.getElem_cons_zero, Act.put, List.setIfInBounds_toArray, List.set_cons_zero, List.set_cons_succ]
  refine wpAnyH_done (by kernel_rfl) ?_ _
  have i1 := IsB.own P1.out
  have i2 := IsB.own O2.out
  have n1e := own_blen P1.out
  have n2e := own_blen O2.out
  rw [Wi.putL_length] at n1e n2e
  have i3 : IsB w2.heap.size w2 (.slice (some ⟨w.heap.size, 2, none⟩) 32 32) x.s := ⟨_, 32, by rw [HS.out], by rw [HS.out]; exact Nat.le_refl _, by unfold maxLen; omega, fun k u hu => ⟨_, rfl, HH.out.1.lt, ndt_s HH.out.1 k u hu⟩⟩
  rw [show (1 : Int).toNat = 1 from rfl, putL_one D0 D1'] at i1
  rw [show (3 : Int).toNat = 3 from rfl, putL_three E0 E1'] at i2
  have HRD := Lib.hid (fun t => rdB_three (W := w2) t i1 i2 i3)
  have HBW := Lib.hid HH.out.2
  have hfl : [[byteI x.d], [byteI (x.a / 65536), byteI (x.a / 256 % 256), byteI (x.a % 256)], x.s].flatten = nodeY x := by simp [nodeY]
  have hfn : [[byteI x.d], [byteI (x.a / 65536), byteI (x.a / 256 % 256), byteI (x.a % 256)], x.s].flatten.length ≤ 1000000 := by rw [hfl, nodeY_length HS.out]; omega
  obtain ⟨ls, hls⟩ : ∃ ls, ls = [[byteI x.d], [byteI (x.a / 65536), byteI (x.a / 256 % 256), byteI (x.a % 256)], x.s] := ⟨_, rfl⟩
  have hln : ls.length = 3 := by rw [hls]; rfl
  rw [← hls] at HRD hfl hfn
  clear i1 i2 i3 n1e n2e hls P1 O2 HH S0 HS
  go_wp2_with fail
  refine (concat_any _ 3 3 ls _ hln (by simp) (HRD.out _) (by omega) hfn).mono ?_
  rintro e w3 ⟨A4, n4, c4, rfl, ho, bw⟩
  rw [hfl] at ho
  have b3 := ((HBW.out.alloc HBW.out.size _).trans (bw.mono (by have := HBW.out.size; simp; omega)))
  have HO := Lib.hid (own_more ho (show w.heap.size ≤ _ by have := HBW.out.size; simp; omega))
  clear ho bw HRD
  go_wp2_with fail
  go_ret
  exact RetRow.mk rfl HO.out b3
/-- What the code's Encode tells. -/
def RetKEnc (l : List Nd) (w : World) (e : Ending) (w' : World) : Prop :=
  Below w.heap.size w w' ∧ (((okS 0 l ∧ l.length ≤ 65535) ∧ ∃ A m c, e = .returned (.tuple #[.slice A m c, .int .i64 0]) ∧ w'.ownsRow w.heap.size 5 1 (.slice A m c) m (bv (encB l))) ∨
    ((¬ okS 0 l) ∧ e = .returned (.tuple #[.slice none 0 0, .int .i64 3])) ∨ ((okS 0 l ∧ 65535 < l.length) ∧ e = .returned (.tuple #[.slice none 0 0, .int .i64 6])))
set_option maxRecDepth 100000 in
set_option maxHeartbeats 3200000 in
theorem kenc_any {B : Nat} (A : Option Addr) (n c : Nat) (l : List Nd) (w : World) (hl : l.length = n) (h3 : ∀ x ∈ l, x.s.length = 32) (ha : ∀ x ∈ l, 0 ≤ x.a) (hB : B ≤ w.heap.size) (hr : Rd B w A (nvs l)) (hn : n ≤ 1000000) :
    Calls Tryd.prog 7 #[.slice A n c] w (RetKEnc l w) := by
  have HMAY := maybe_any A n c l w hl h3 ha hB hr hn
  have HL := Lib.hid hl
  have HR := Lib.hid (hr.more hB)
  have H3 := Lib.hid h3
  obtain ⟨cz, hcz⟩ : ∃ cz, cz = ndC zeroNd := ⟨_, rfl⟩
  have hzh : ∀ W, (zeroValue 53).run Tryd.prog W = .ok (.agg cz) W := fun _ => by rw [hcz]; kernel_rfl
  have ZH : Hid (cz.size = 34) := by show _ = _; rw [hcz]; exact ndC_size rfl
  clear hl hr h3 ha hB hcz
  go_enter Tryd.func7, Tryd.ntmps7
  go_wp2_with fail
  refine HMAY.mono ?_
  rintro e w2 ⟨b, rfl, hb, bw⟩
  clear HMAY
  by_cases hok : okS 0 l
  · have hbt : b = true := hb.2 hok
    subst hbt
    by_cases h6 : (n : Int) > 65535
    · have d6 : decide ((n : Int) > 65535) = true := decide_eq_true h6
      have HNO := Lib.hid (show okS 0 l ∧ 65535 < l.length from ⟨hok, by rw [HL.out]; omega⟩)
      clear h6 hok hb
      go_wp2_with fail
      go_ret2
      exact ⟨bw, .inr (.inr ⟨HNO.out, rfl⟩)⟩
    · have d6 : decide ((n : Int) > 65535) = false := decide_eq_false h6
      have hn6 : n ≤ 65535 := by omega
      have HOK := Lib.hid (show okS 0 l ∧ l.length ≤ 65535 from ⟨hok, by rw [HL.out]; omega⟩)
      clear h6 hok hb
      have HF := Lib.hid (okS_fits HOK.out.1)
      have HBW := Lib.hid bw
      have em : IntKind.i64.wrap ((n : Int) * 36) = ((n * 36 : Nat) : Int) := by rw [IntWalk.i64_in _ (by omega)]; omega
      have em2 : IntKind.i64.wrap (2 + ((n * 36 : Nat) : Int)) = ((2 + n * 36 : Nat) : Int) := by rw [IntWalk.i64_in _ (by omega)]; omega
      have eu : IntKind.u64.wrap (n : Int) = (n : Int) := IntWalk.u64_in _ (by omega)
      have ek2 : ((2 + n * 36 : Nat) : Int) = 2 + (n : Int) * 36 := by omega
      obtain ⟨i0, hi, hz0, hz1, hz2⟩ := info_parts Wi.bytesElt.info
      clear bw
      go_wp2_with (at_make; refine wpList_make_own _ rfl _ _ _ rfl w.heap.size 5 i0 _ 1 Tryd.underlying34 hi hz0 hz1 .i64 .i64 _ (2 + n * 36) rfl rfl (by omega) ?_ ?_ ?_ ?_; (rw [hz2]; omega); (unfold maxLen; omega); (exact HBW.out.size); intro w1 hown hg)
      have HO1 := Lib.hid hown
      have HB1 := Lib.hid (HBW.out.grown hg HBW.out.size (fun _ h => by cases h))
      obtain ⟨A1, hA1⟩ : ∃ A1, A1 = some (⟨w2.heap.size, 0, none⟩ : Addr) := ⟨_, rfl⟩
      rw [← hA1] at HO1 ⊢
      clear hown hg hA1 hi hz0 hz1 hz2
      refine (Wi.wput_in (n : Int) 2 _ (by omega) (by omega) (by omega) (by omega)).mono ?_
      rintro e w3 ⟨A3, n3, c3, rfl, ho, bw⟩
      have n3e := own_blen ho
      rw [Wi.putL_length] at n3e
      rw [show ((n : Int)).toNat = n from by omega, show (2 : Int).toNat = 2 from rfl, putL_two hn6] at ho
      obtain rfl : n3 = 2 := by rw [← n3e]; rfl
      have R3 := Lib.hid (Rd.own ho)
      have HO3 := Lib.hid (own_below HO1.out bw)
      have HB3 := Lib.hid (HB1.out.trans (bw.mono HB1.out.size))
      have hyl : (hdrY n).length = 2 := rfl
      clear ho bw HO1 HB1 n3e
      go_wp2_with (at_builtin
                   refine wpList_app _ rfl (.tmp 18) (.tmp 22) _ rfl Wi.bytesElt (base := w.heap.size) (v := .slice A1 0 (2 + n * 36)) rfl HO3.out (m := 2) rfl R3.out (by rw [bv_length, hyl]) (bv_one _) ?_ ?_ ?_
                   · omega
                   · exact HB3.out.size
                   intro A4 c4 w4 ho4 hg4 _
                   have hb4 := app_below HB3.out HO3.out hg4 (Nat.le_refl _) HB3.out.size
                   have O4 := Lib.hid ho4
                   have B4 := Lib.hid hb4
                   clear ho4 hg4 hb4 HO3 HB3 R3)
      go_loopw [4, 6, 26] (fun o _ i wr => ∃ k m1 A1 c1, k ≤ n ∧ m1 = 2 + 36 * k ∧ i = .int .i64 (k : Nat) ∧ o = .slice A1 m1 c1 ∧ Below w.heap.size w wr ∧ wr.ownsRow w.heap.size 5 1 (.slice A1 m1 c1) m1 (bv (hdrY n ++ encN (l.take k)))) (fun _ _ i _ => n - (intOf i).toNat)
      case atStart => exact ⟨0, _, A4, c4, by omega, rfl, rfl, slice_eq (by omega), B4.out, by rw [List.take_zero, encN_nil, List.append_nil]; exact own_eq O4.out (by omega) (by rw [List.nil_append])⟩
      case round =>
        clear O4 B4
        obtain ⟨k, m1, A1, c1, hk, hm1, rfl, rfl, hbw, how⟩ := hrel
        by_cases hlt : k < n
        · have hkl : k < l.length := by rw [HL.out]; exact hlt
          obtain ⟨ad, hA, hbl, hcell⟩ := rd_node (HR.out.below hbw) H3.out hkl
          subst hA
          obtain ⟨x, hxe⟩ : ∃ x, x = l[k] := ⟨_, rfl⟩
          have hx3 : x.s.length = 32 := by rw [hxe]; exact H3.out _ (List.getElem_mem hkl)
          have hfit : fits x := by rw [hxe]; exact HF.out _ (List.getElem_mem hkl)
          have hsn : encN (l.take (k + 1)) = encN (l.take k) ++ nodeY x := by rw [hxe]; exact encN_snoc l hkl
          rw [← hxe] at hcell
          have HCE := Lib.hid hcell
          have HI : Hid ((Tryd.prog.info? 53).map (·.size) = some (ndV x).length) := by rw [ndV_length hx3]; exact info_held
          have HIC : Hid ((Tryd.prog.info? 53).map (·.size) = some (ndC x).size) := by rw [ndC_size hx3]; exact info_held
          have HX3 := Lib.hid hx3
          have HFX := Lib.hid hfit
          have HSN := Lib.hid hsn
          have HB := Lib.hid hbw
          have HO := Lib.hid how
          have k0 : (0 : Int) ≤ (k : Int) := by omega
          have k1 : (k : Int) < (n : Int) := by omega
          have ek : IntKind.i64.wrap ((k : Int) + 1) = ((k + 1 : Nat) : Int) := by rw [IntWalk.i64_in _ (by omega)]; omega
          have hm2 : m1 + 36 ≤ 3000000 := by omega
          have HM1 := Lib.hid hm1
          clear hm1 hcell hxe hx3 hfit hsn hbw how
          go_wp2_with (first
            | (refine wpList_load_at rfl 53 (.tmp 28) rfl (ad.add (k * 34)) rfl HCE.out Tryd.underlying53 rfl HI.out ?_
               change wpList _ _ _ _ (Act.put _ _ (.agg (ndC x))) _)
            | (refine wpList_store_row rfl 53 (.tmp 6) (.tmp 29) rfl wr.heap.size (ndC x) rfl rfl 53 cz (heap_alloc_new _ _) HIC.out (by rw [ndC_size HX3.out, ZH.out]) (ndC_one _) ?_
               generalize hwx : World.setRow _ _ _ = wx
               have E1 := Lib.hid (show Blk wx wr.heap.size (ndC x) 53 by rw [← hwx]; exact setRow_heap _ _ _ _ _ _ (heap_alloc_new _ _))
               have EB := Lib.hid (show Below w.heap.size w wx by rw [← hwx]; exact below_setRow (HB.out.alloc HB.out.size _) HB.out.size _)
               have EW := Lib.hid (show Below wr.heap.size wr wx by rw [← hwx]; exact below_setRow ((Below.refl _ wr).alloc (Nat.le_refl _) _) (Nat.le_refl _) _)
               have EO := Lib.hid (own_below HO.out EW.out)
               clear hwx HB HO EW)
            | (refine wpList_load_row rfl 53 (.tmp 6) rfl wr.heap.size rfl 53 (ndC x) (0, 0) _ E1.out Tryd.underlying53 rfl HIC.out ?_))
          refine (nodebytes_any x HFX.out _).mono ?_
          rintro e w5 ⟨A5, n5, c5, rfl, ho, bw⟩
          have n5e := own_blen ho
          rw [nodeY_length HX3.out] at n5e
          obtain rfl : n5 = 36 := n5e.symm
          have R5 := Lib.hid (Rd.own ho)
          have HO5 := Lib.hid (own_below EO.out bw)
          have HB5 := Lib.hid (EB.out.trans (bw.mono EB.out.size))
          have hyl : (bv (nodeY x)).length = 36 := by rw [bv_length, nodeY_length HX3.out]
          have HYL := Lib.hid hyl
          clear ho bw E1 EB EO n5e hyl
          go_wp2_with (at_builtin
                       refine wpList_app _ rfl (.tmp 30) (.tmp 32) _ rfl Wi.bytesElt (base := w.heap.size) (v := .slice A1 m1 c1) rfl HO5.out (m := 36) rfl R5.out HYL.out (bv_one _) ?_ ?_ ?_
                       · omega
                       · exact HB5.out.size
                       intro A6 c6 w6 ho6 hg6 _
                       have hb6 := app_below HB5.out HO5.out hg6 (Nat.le_refl _) HB5.out.size
                       have O6 := Lib.hid ho6
                       have B6 := Lib.hid hb6
                       clear ho6 hg6 hb6 HO5 HB5 R5)
          go_roundw
          case rel => exact ⟨k + 1, m1 + 36, A6, c6, by omega, by rw [HM1.out]; omega, by go_num, rfl, B6.out, own_eq O6.out rfl (by rw [HSN.out, ← bv_append, List.append_assoc])⟩
          case measure => simp [intOf]; omega
        · obtain rfl : k = n := by omega
          rw [List.take_of_length_le (by rw [HL.out]; exact Nat.le_refl _)] at how
          have HB := Lib.hid hbw
          have HO := Lib.hid how
          clear hbw how
          go_wp2_with fail
          go_ret2
          exact ⟨HB.out, .inl ⟨HOK.out, A1, m1, c1, rfl, by rw [encB_hdr, HL.out]; exact HO.out⟩⟩
  · have hbf : b = false := by cases b; rfl; exact absurd (hb.1 rfl) hok
    subst hbf
    have HNO := Lib.hid hok
    clear hok hb
    go_wp2_with fail
    go_ret2
    exact ⟨bw, .inr (.inl ⟨HNO.out, rfl⟩)⟩
end Go.Proofs.YtippbjpodnnhiaaDoor.Kc
/-
  The contracts of the turns and of the two quarter rounds.
-/
namespace Go.Proofs.YtippbjpodnnhiaaDoor
open Go.RowKit

theorem crot_any (x : Int) (n : Int) (X : UInt32) (m : Nat) (w : World) (hx : x = (X.toNat : Int)) (hn : n = (m : Int)) (h0 : 0 < m) (h1 : m < 32) :
    Calls Tryd.prog 70 #[.int .u32 x, .int .i64 n] w (fun e w' => e = .returned (.int .u32 (rotl X m).toNat) ∧ w = w') := by
  subst hx
  subst hn
  have b0 : (0 : Int) ≤ (X.toNat : Int) := by omega
  have b1 : (X.toNat : Int) ≤ 4294967295 := by have := X.toNat_lt; omega
  have HR := Lib.hid (w_rotl X h0 h1)
  have HA : bits BinOp.and IntKind.u64 (m : Int) 31 = (m : Int) := by
    have := u64_and_nat m 31 (by omega) (by decide)
    rw [show ((31 : Int)) = ((31 : Nat) : Int) from rfl, this]
    congr 1
    rw [show (31 : Nat) = 2 ^ 5 - 1 from rfl, Nat.and_two_pow_sub_one_eq_mod]; omega
  go_enter Tryd.func70, Tryd.ntmps70
  go_wp2
  go_ret
  exact ⟨ret_int HR.out, rfl⟩

theorem tup_eq {a b c d a' b' c' d' : Int} (h1 : a = a') (h2 : b = b') (h3 : c = c') (h4 : d = d') :
    Ending.returned (.tuple #[.int .u32 a, .int .u32 b, .int .u32 c, .int .u32 d]) = .returned (.tuple #[.int .u32 a', .int .u32 b', .int .u32 c', .int .u32 d']) := by rw [h1, h2, h3, h4]

/-- A quarter round's four numbers, handed back. -/
def RetQuart (q : UInt32 × UInt32 × UInt32 × UInt32) (w : World) (e : Ending) (w' : World) : Prop :=
  e = .returned (.tuple #[.int .u32 q.1.toNat, .int .u32 q.2.1.toNat, .int .u32 q.2.2.1.toNat, .int .u32 q.2.2.2.toNat]) ∧ w = w'

set_option maxHeartbeats 400000 in
theorem quarter_any (a b c d : UInt32) (w : World) :
    Calls Tryd.prog 69 #[.int .u32 a.toNat, .int .u32 b.toNat, .int .u32 c.toNat, .int .u32 d.toNat] w (RetQuart (qq a b c d) w) := by
  go_enter Tryd.func69, Tryd.ntmps69
  go_wp2_with fail
  refine (crot_any _ _ (d ^^^ (a + b)) 16 _ (by simp only [w_add, w_xor]) (by rfl) (by decide) (by decide)).mono ?_
  rintro e w' ⟨rfl, rfl⟩
  go_wp2_with fail
  refine (crot_any _ _ (b ^^^ (c + rotl (d ^^^ (a + b)) 16)) 12 _ (by simp only [w_add, w_xor]) (by rfl) (by decide) (by decide)).mono ?_
  rintro e w' ⟨rfl, rfl⟩
  go_wp2_with fail
  refine (crot_any _ _ (rotl (d ^^^ (a + b)) 16 ^^^ (a + b + rotl (b ^^^ (c + rotl (d ^^^ (a + b)) 16)) 12)) 8 _ (by simp only [w_xor, w_add3]) (by rfl) (by decide) (by decide)).mono ?_
  rintro e w' ⟨rfl, rfl⟩
  go_wp2_with fail
  refine (crot_any _ _ _ 7 _ (by simp only [w_add3, w_xor]; rfl) (by rfl) (by decide) (by decide)).mono ?_
  rintro e w' ⟨rfl, rfl⟩
  go_wp2_with fail
  refine bodyPost_ret (v := .tuple #[_, _, _, _]) (by simp [results, Tryd.results69, go_sem]; exact ⟨rfl, rfl, rfl, rfl⟩) rfl ⟨?_, rfl⟩
  exact tup_eq (by simp only [w_add3]; rfl) (by rfl) (by simp only [w_add3]; rfl) (by rfl)
end Go.Proofs.YtippbjpodnnhiaaDoor
