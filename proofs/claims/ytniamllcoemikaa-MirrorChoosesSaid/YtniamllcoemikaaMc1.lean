/-
  Texts of this seat, one behind the other: MiAwake, MiChooseL.
-/
import Derived.OrdersHeld
import Derived.Deep.RegionHeld
import Derived.Test.YtniamllcoemikaaMb1
/-
  The laws' example, awake.
-/
namespace Go.Proofs.Ytniamllcoemikaa.Mi
open Go.RowKit Kd
attribute [local go_sem ↓] Go.wp_at_zero Go.wp_at_succ
def mw0 : Md := Md.new 5
def mw1 : Md := (mw0.write 3 (secN 1 0)).2
def mw2 : Md := mw1.rot 0 3 0 1
def mw3 : Md := (mw2.heal goodN 3).2
theorem mw_facts : (mw0.write 3 (secN 1 0)).1 = 0 ∧ (mw1.o0 && mw1.o1) = false ∧ hasByte mw1.a.length 3 0 = true ∧ mw2.read goodN 3 = (secN 1 0, 0) ∧ (mw2.heal goodN 3).1 = (1, 0) := by decide +kernel
theorem sec_size (x y : UInt8) : (Try.prog.info? 37).map (·.size) = some (bva (secN x y)).size := by rw [bva_size, secN_length]; exact info_sec
set_option maxRecDepth 100000 in
set_option maxHeartbeats 6400000 in
theorem awake_any (w : World) : Calls Try.prog 40 #[] w (RetB (.bool true) w) := by
  obtain ⟨f1, f2, f3, f4, f5⟩ := mw_facts
  have HF1 := Lib.hid f1
  have HF2 := Lib.hid f2
  have HF3 := Lib.hid f3
  have HF4 := Lib.hid f4
  have HF5 := Lib.hid f5
  clear f1 f2 f3 f4 f5
  obtain ⟨z, hz0⟩ : ∃ z : List UInt8, z = zeroS := ⟨_, rfl⟩
  have hz : ∀ W, (zeroValue 37).run Try.prog W = .ok (.agg (bva z)) W := fun _ => by rw [hz0]; kernel_rfl
  have HZ3 := Lib.hid (show z.length = 128 by rw [hz0]; exact zeroS_length)
  clear hz0
  obtain ⟨y, hy⟩ : ∃ y, y = secN 1 0 := ⟨_, rfl⟩
  have HY := Lib.hid hy
  have HY3 := Lib.hid (show y.length = 128 by rw [hy]; exact secN_length _ _)
  have HIY := Lib.hid (show (Try.prog.info? 37).map (·.size) = some (bva y).size by rw [hy]; exact sec_size _ _)
  have HSY := Lib.hid (show ∀ w, Calls Try.prog 49 #[.int .u8 1, .int .u8 0] w (RetB (.agg (bva y)) w) from fun w => by rw [hy]; exact sector9_any w 1 0)
  have HW1 := Lib.hid (show (mw0.write 3 y).2 = mw1 by rw [hy]; rfl)
  rw [← hy] at HF1 HF4
  have heq := eq_sec y y HY3.out HY3.out
  rw [decide_eq_true (rfl : y = y)] at heq
  have HQ := Lib.hid heq
  clear heq hy
  go_enter Try.func40, Try.ntmps40
  go_wp2_with fail
  refine (live_new0 5).mono ?_
  rintro e w1 ⟨p1, g1, rfl, F1, h⟩
  have H1 := Lib.hid h
  clear h
  go_wp2_with fail
  refine (live_new0 5).mono ?_
  rintro e w2 ⟨p2, g2, rfl, F2, h⟩
  have HD2 := Lib.hid (ld_new H1.out h (see_new 5 (by omega)) (see_new 5 (by omega)))
  clear h H1
  go_wp2_with fail
  refine (lm_new (G := gG) (fun _ _ _ _ _ _ => trivial) HD2.out (n := 5) rfl rfl).mono ?_
  rintro e w3 ⟨g, s3, F3, rfl, h, hn, hb⟩
  have H3 := Lib.hid (show LM p1 g1 p2 g2 gG g w w3 s3 F3 mw0 0 from h)
  clear h hn hb HD2
  go_wp2_with fail
  have hc := HSY.out w3
  refine hc.mono ?_
  clear hc
  rintro e w4 ⟨rfl, bw⟩
  have H4 := Lib.hid (H3.out.below bw)
  clear bw H3
  go_wp2_with fail
  have hc := lm_write H4.out 3 y HY3.out (by omega)
  rw [HF1.out, HW1.out] at hc
  refine hc.mono ?_
  clear hc
  rintro e w5 ⟨rfl, s5, F5, h, hm5⟩
  have H5 := Lib.hid (show LM p1 g1 p2 g2 gG g w w5 s5 F5 mw1 (0 + 2) from h)
  clear h hm5 H4
  go_wp2_with fail
  have hc := lm_flush H5.out
  rw [HF2.out, if_neg (by simp)] at hc
  refine hc.mono ?_
  clear hc
  rintro e w6 ⟨rfl, s6, F6, h, hm6⟩
  have H6 := Lib.hid (show LM p1 g1 p2 g2 gG g w w6 s6 F6 mw1 0 from h)
  clear h hm6 H5
  go_wp2_with fail
  have hc := lm_rot0 H6.out 3 0 1
  rw [HF3.out] at hc
  refine hc.mono ?_
  clear hc
  rintro e w7 ⟨rfl, s7, F7, h, hm7⟩
  have H7 := Lib.hid (show LM p1 g1 p2 g2 gG g w w7 s7 F7 mw2 0 from h)
  clear h hm7 H6
  go_wp2_with fail
  have hc := lm_read H7.out 3
  rw [show Md.read gG.f mw2 3 = (y, 0) from HF4.out] at hc
  refine hc.mono ?_
  clear hc
  rintro e w8 ⟨rfl, s8, F8, h, hm8⟩
  have H8 := Lib.hid (show LM p1 g1 p2 g2 gG g w w8 s8 F8 mw2 0 from h)
  clear h hm8 H7
  go_wp2_with (show wpList _ _ _ ({ dst := none, op := .store 37 (.tmp 6) (.tmp 26), type := _, pos := _, after := _, guard := _ } :: _) _ _; apply Classical.byContradiction; intro hneg)
  refine hneg ?_
  clear hneg
  refine wpList_store_row rfl 37 (.tmp 6) (.tmp 26) rfl w8.heap.size (bva y) rfl rfl 37 (bva z) (heap_alloc_new _ _) HIY.out (by rw [bva_size, bva_size, HY3.out, HZ3.out]) (bva_one _) ?_
  obtain ⟨w9, hw9⟩ : ∃ w9, w9 = (w8.alloc (.cells (bva z) 37)).setRow w8.heap.size (bva y) := ⟨_, rfl⟩
  have bw : Below w8.heap.size w8 w9 := by rw [hw9]; exact below_setRow ((Below.refl _ _).alloc (Nat.le_refl _) _) (Nat.le_refl _) _
  have hbx : Blk w9 w8.heap.size (bva y) 37 := by rw [hw9]; exact setRow_heap _ _ _ _ _ _ (heap_alloc_new _ _)
  rw [← hw9]
  clear hw9
  obtain ⟨b9, hb9⟩ : ∃ b9, b9 = w8.heap.size := ⟨_, rfl⟩
  rw [← hb9] at hbx
  rw [← hb9]
  have BX9 := Lib.hid (show Bx w w9 F8 b9 (bva y) 37 from ⟨hbx, by rw [hb9]; exact H8.out.live.bel.size, fun hf => by have := (ML (Two p1 g1 p2 g2) gG g).lt H8.out.live.at_ _ hf; omega⟩)
  clear hb9 hbx
  have H9 := Lib.hid (H8.out.below bw)
  clear bw H8
  go_wp2_with fail
  have hc := lm_heal H9.out 3 (by omega)
  rw [show (Md.heal gG.f mw2 3).1 = (1, 0) from HF5.out, show tup2 (1, 0) = .tuple #[.int .i64 1, .int .i64 0] from rfl] at hc
  refine hc.mono ?_
  clear hc
  rintro e w10 ⟨rfl, s10, F10, h, hm10⟩
  have H10 := Lib.hid (show LM p1 g1 p2 g2 gG g w w10 s10 F10 mw3 (0 + 1) from h)
  have BX10 := Lib.hid (BX9.out.step hm10)
  clear h hm10 H9 BX9
  go_wp2_with fail
  refine wp_region_held_drew (S := fun w' => Below w10.heap.size w10 w') (by kernel_rfl) (Below.refl _ _).drew (fun hh => ?_)
  have HH := Lib.hid hh
  clear hh
  refine wpAnyH_take (i := 0) (v := ?vA0) rfl (by kernel_rfl) (by kernel_rfl) (by kernel_rfl) (fun _ _ _ h => h) (Or.inl ⟨by rfl, fun w' _ => ?yA0⟩) HH.out ?_
  case yA0 => (go_simp; try with_reducible rfl)
  refine wpAnyH_take (i := 1) (v := ?vA1) rfl (by kernel_rfl) (by kernel_rfl) (by kernel_rfl) (fun _ _ _ h => h) (Or.inl ⟨by rfl, fun w' _ => ?yA1⟩) HH.out ?_
  case yA1 => (go_simp; try with_reducible rfl)
  try simp only [List.getElem_toArray, List.getElem_cons_succ, List.getElem_cons_zero, Act.put, List.setIfInBounds_toArray, List.set_cons_zero, List.set_cons_succ]
  refine wpAnyH_take (i := 2) (v := ?vA2) rfl (by kernel_rfl) (by kernel_rfl) (by kernel_rfl) (fun _ _ _ h => h) (Or.inl ⟨by rfl, fun w' _ => ?yA2⟩) HH.out ?_
  case yA2 => (go_simp; try with_reducible rfl)
  try simp only [List.getElem_toArray, List.getElem_cons_succ, List.getElem_cons_zero, Act.put, List.setIfInBounds_toArray, List.set_cons_zero, List.set_cons_succ]
  refine wpAnyH_take (i := 3) (v := ?vA3) rfl (by kernel_rfl) (by kernel_rfl) (by kernel_rfl) (fun _ _ _ h => h) (Or.inl ⟨by rfl, fun w' _ => ?yA3⟩) HH.out ?_
  case yA3 => (go_simp; try with_reducible rfl)
  try simp only [List.getElem_toArray, List.getElem_cons_succ, List.getElem_cons_zero, Act.put, List.setIfInBounds_toArray, List.set_cons_zero, List.set_cons_succ]
  refine wpAnyH_take (i := 4) (v := ?vA4) rfl (by kernel_rfl) (by kernel_rfl) (by kernel_rfl) (fun _ _ _ h => h) (Or.inl ⟨by rfl, fun w' _ => ?yA4⟩) HH.out ?_
  case yA4 => (go_simp; try with_reducible rfl)
  try simp only [List.getElem_toArray, List.getElem_cons_succ, List.getElem_cons_zero, Act.put, List.setIfInBounds_toArray, List.set_cons_zero, List.set_cons_succ]
  refine wpAnyH_take (i := 5) (v := ?vA5) rfl (by kernel_rfl) (by kernel_rfl) (by kernel_rfl) (fun _ _ _ h => h) (Or.inl ⟨by rfl, fun w' _ => ?yA5⟩) HH.out ?_
  case yA5 => (go_simp; try with_reducible rfl)
  refine wpAnyH_take (i := 6) (v := ?vA6) rfl (by kernel_rfl) (by kernel_rfl) (by kernel_rfl) (fun _ _ _ h => h) (Or.inl ⟨by rfl, fun w' _ => ?yA6⟩) HH.out ?_
  case yA6 => (go_simp; try with_reducible rfl)
  try simp only [List.getElem_toArray, List.getElem_cons_succ, List.getElem_cons_zero, Act.put, List.setIfInBounds_toArray, List.set_cons_zero, List.set_cons_succ]
  refine wpAnyH_take (i := 7) (v := ?vA7) rfl (by kernel_rfl) (by kernel_rfl) (by kernel_rfl) (fun _ _ _ h => h) (Or.inl ⟨by rfl, fun w' _ => ?yA7⟩) HH.out ?_
  case yA7 => (go_simp; try with_reducible rfl)
  try simp only [List.getElem_toArray, List.getElem_cons_succ, List.getElem_cons_zero, Act.put, List.setIfInBounds_toArray, List.set_cons_zero, List.set_cons_succ]
  refine wpAnyH_take (i := 8) (v := ?vA8) rfl (by kernel_rfl) (by kernel_rfl) (by kernel_rfl) (fun _ _ _ h => h) (Or.inl ⟨by rfl, fun w' _ => ?yA8⟩) HH.out ?_
  case yA8 => (go_simp; try with_reducible rfl)
  refine wpAnyH_take (i := 9) (v := ?vA9) rfl (by kernel_rfl) (by kernel_rfl) (by kernel_rfl) (fun _ _ _ h => h) (Or.inl ⟨by rfl, fun w' _ => ?yA9⟩) HH.out ?_
  case yA9 => (go_simp; try with_reducible rfl)
  refine wpAnyH_take (i := 10) (v := ?vA10) rfl (by kernel_rfl) (by kernel_rfl) (by kernel_rfl) (fun _ _ _ h => h) (Or.inl ⟨by rfl, fun w' _ => ?yA10⟩) HH.out ?_
  case yA10 => (go_simp; try with_reducible rfl)
  try simp only [List.getElem_toArray, List.getElem_cons_succ, List.getElem_cons_zero, Act.put, List.setIfInBounds_toArray, List.set_cons_zero, List.set_cons_succ]
  refine wpAnyH_take (i := 11) (v := ?vA11) rfl (by kernel_rfl) (by kernel_rfl) (by kernel_rfl) (fun _ _ _ h => h) (Or.inl ⟨by rfl, fun w' _ => ?yA11⟩) HH.out ?_
  case yA11 => (go_simp; try with_reducible rfl)
  try simp only [List.getElem_toArray, List.getElem_cons_succ, List.getElem_cons_zero, Act.put, List.setIfInBounds_toArray, List.set_cons_zero, List.set_cons_succ]
  refine wpAnyH_take (i := 12) (v := ?vA12) rfl (by kernel_rfl) (by kernel_rfl) (by kernel_rfl) (fun _ _ _ h => h) (Or.inl ⟨by rfl, fun w' _ => ?yA12⟩) HH.out ?_
  case yA12 => (go_simp; try with_reducible rfl)
  refine wpAnyH_take (i := 13) (v := ?vA13) rfl (by kernel_rfl) (by kernel_rfl) (by kernel_rfl) (fun _ _ _ h => h) (Or.inl ⟨by rfl, fun w' _ => ?yA13⟩) HH.out ?_
  case yA13 => (go_simp; try with_reducible rfl)
  try simp only [List.getElem_toArray, List.getElem_cons_succ, List.getElem_cons_zero, Act.put, List.setIfInBounds_toArray, List.set_cons_zero, List.set_cons_succ]
  refine wpAnyH_take (i := 14) (v := ?vA14) rfl (by kernel_rfl) (by kernel_rfl) (by kernel_rfl) (fun _ _ _ h => h) (Or.inl ⟨by rfl, fun w' _ => ?yA14⟩) HH.out ?_
  case yA14 => (go_simp; try with_reducible rfl)
  refine wpAnyH_take (i := 15) (v := .agg (bva y)) rfl (by kernel_rfl) (by kernel_rfl) (by kernel_rfl) (fun _ _ _ h => h) (Or.inl ⟨by rfl, fun w' hw' => ?yA15⟩) HH.out ?_
  case yA15 => exact exec_load 37 (.tmp 6) rfl rfl (BX10.out.1.below hw') Try.underlying37 rfl HIY.out
  try simp only [List.getElem_toArray, List.getElem_cons_succ, List.getElem_cons_zero, Act.put, List.setIfInBounds_toArray, List.set_cons_zero, List.set_cons_succ]
  refine wpAnyH_ready (rs := [16]) (by kernel_rfl) (by simp) (AllReadyH.cons rfl (fun K hK => ?_) AllReadyH.nil)
  go_simp
  refine (HSY.out _).mono ?_
  rintro e v1 ⟨rfl, bw1⟩
  go_simp
  refine hK.out _ _ (HH.out.trans (bw1.mono HH.out.size)) (fun hh => ?_)
  have HH' := Lib.hid hh
  clear hh hK K HH bw1
  have HH := Lib.hid HH'.out
  clear HH'
  try simp only [List.getElem_toArray, List.getElem_cons_succ, List.getElem_cons_zero, Act.put, List.setIfInBounds_toArray, List.set_cons_zero, List.set_cons_succ]
  refine wpAnyH_take (i := 17) (v := .bool true) rfl (by kernel_rfl) (by kernel_rfl) (by kernel_rfl) (fun _ _ _ h => h) (Or.inl ⟨by rfl, fun w' hw' => ?yA17⟩) HH.out ?_
  case yA17 => (go_simp; rw [HQ.out]; rfl)
  refine wpAnyH_take (i := 18) (v := ?vA18) rfl (by kernel_rfl) (by kernel_rfl) (by kernel_rfl) (fun _ _ _ h => h) (Or.inl ⟨by rfl, fun w' _ => ?yA18⟩) HH.out ?_
  case yA18 => (go_simp; try with_reducible rfl)
  refine wpAnyH_take (i := 19) (v := ?vA19) rfl (by kernel_rfl) (by kernel_rfl) (by kernel_rfl) (fun _ _ _ h => h) (Or.inl ⟨by rfl, fun w' _ => ?yA19⟩) HH.out ?_
  case yA19 => (go_simp; try with_reducible rfl)
  try simp only [List.getElem_toArray, List.getElem_cons_succ, List.getElem_cons_zero, Act.put, List.setIfInBounds_toArray, List.set_cons_zero, List.set_cons_succ]
  refine wpAnyH_take (i := 20) (v := ?vA20) rfl (by kernel_rfl) (by kernel_rfl) (by kernel_rfl) (fun _ _ _ h => h) (Or.inl ⟨by rfl, fun w' _ => ?yA20⟩) HH.out ?_
  case yA20 => (go_simp; try with_reducible rfl)
  try simp only [List.getElem_toArray, List.getElem_cons_succ, List.getElem_cons_zero, Act.put, List.setIfInBounds_toArray, List.set_cons_zero, List.set_cons_succ]
  refine wpAnyH_take (i := 21) (v := ?vA21) rfl (by kernel_rfl) (by kernel_rfl) (by kernel_rfl) (fun _ _ _ h => h) (Or.inl ⟨by rfl, fun w' _ => ?yA21⟩) HH.out ?_
  case yA21 => (go_simp; try with_reducible rfl)
  refine wpAnyH_take (i := 22) (v := ?vA22) rfl (by kernel_rfl) (by kernel_rfl) (by kernel_rfl) (fun _ _ _ h => h) (Or.inl ⟨by rfl, fun w' _ => ?yA22⟩) HH.out ?_
  case yA22 => (go_simp; try with_reducible rfl)
  try simp only [List.getElem_toArray, List.getElem_cons_succ, List.getElem_cons_zero, Act.put, List.setIfInBounds_toArray, List.set_cons_zero, List.set_cons_succ]
  refine wpAnyH_take (i := 23) (v := ?vA23) rfl (by kernel_rfl) (by kernel_rfl) (by kernel_rfl) (fun _ _ _ h => h) (Or.inl ⟨by rfl, fun w' _ => ?yA23⟩) HH.out ?_
  case yA23 => (go_simp; try with_reducible rfl)
  try simp only [List.getElem_toArray, List.getElem_cons_succ, List.getElem_cons_zero, Act.put, List.setIfInBounds_toArray, List.set_cons_zero]
  refine wpAnyH_done (by kernel_rfl) ?_ _
  go_wp2_with fail
  go_ret
  exact ⟨rfl, H10.out.live.bel.trans (HH.out.mono H10.out.live.bel.size)⟩
end Go.Proofs.Ytniamllcoemikaa.Mi
/-
  Writes to one device of two alone, their flushes; what each is dumped as, beneath a mirror; an array of six pairs of bytes that came in.
-/
namespace Go.Proofs.Ytniamllcoemikaa.Mi
open Go.RowKit Kd Sc
section
variable {p1 g1 p2 g2 g : Nat} {G : Gd} {w0 w w' : World} {F F' : Nat → Prop} {m : Nat} {d : (Two p1 g1 p2 g2).L.St} {L0 L1 : List (List UInt8)} {o0 o1 : Bool} {s : Mr (Two p1 g1 p2 g2)} {x : Md}
/-- It returns v; the devices have that now. -/
def RetD2 (v : Value) (p1 g1 p2 g2 : Nat) (w0 : World) (L0 L1 : List (List UInt8)) (o0 o1 : Bool) (m : Nat) (F : Nat → Prop) (w : World) (e : Ending) (w' : World) : Prop :=
  e = .returned v ∧ ∃ (d : (Two p1 g1 p2 g2).L.St) (F' : Nat → Prop), LD p1 g1 p2 g2 w0 w' d F' L0 L1 o0 o1 m ∧ Mv (Two p1 g1 p2 g2).L w F w' d F'
theorem ld2_write0 (h : LD p1 g1 p2 g2 w0 w d F L0 L1 false o1 m) (k : Nat) (hk : k < L0.length) (y : List UInt8) (hy : y.length = 128) (hm : m < 900000) :
    Calls Try.prog 51 #[.pointer (some ⟨g1, 0, none⟩), .int .i64 k, .agg (bva y)] w (RetD2 (.int .i64 0) p1 g1 p2 g2 w0 (L0.set k y) L1 false o1 (m + 1) F w) := by
  obtain ⟨F1, h1, hl⟩ := pair_fst h.live.at_
  obtain ⟨e1, h2⟩ := h.d0.write_yes (x := y) rfl hk
  have hc := write_any h1.1 0 (by rw [h.d0.ds]; omega) (k : Int) y hy (by have := h.d0.few; omega)
  rw [e1] at hc
  refine hc.mono fun _ _ hr => ?_
  obtain ⟨rfl, F', hmv⟩ := hl (RetS.reta ((write_dsM _ _ _ _).trans h.d0.ds) hr)
  exact ⟨rfl, _, F', ⟨h.live.step hmv, h2, h.d1.more (Nat.le_succ _)⟩, hmv⟩
theorem ld2_write1 (h : LD p1 g1 p2 g2 w0 w d F L0 L1 o0 false m) (k : Nat) (hk : k < L1.length) (y : List UInt8) (hy : y.length = 128) (hm : m < 900000) :
    Calls Try.prog 51 #[.pointer (some ⟨g2, 0, none⟩), .int .i64 k, .agg (bva y)] w (RetD2 (.int .i64 0) p1 g1 p2 g2 w0 L0 (L1.set k y) o0 false (m + 1) F w) := by
  obtain ⟨F1, h1, hl⟩ := pair_snd h.live.at_
  obtain ⟨e1, h2⟩ := h.d1.write_yes (x := y) rfl hk
  have hc := write_any h1.1 0 (by rw [h.d1.ds]; omega) (k : Int) y hy (by have := h.d1.few; omega)
  rw [e1] at hc
  refine hc.mono fun _ _ hr => ?_
  obtain ⟨rfl, F', hmv⟩ := hl (RetS.reta ((write_dsM _ _ _ _).trans h.d1.ds) hr)
  exact ⟨rfl, _, F', ⟨h.live.step hmv, h.d0.more (Nat.le_succ _), h2⟩, hmv⟩
/-- Both are flushed, one behind the other. -/
theorem ld2_flush0 (h : LD p1 g1 p2 g2 w0 w d F L0 L1 false o1 m) :
    Calls Try.prog 52 #[.pointer (some ⟨g1, 0, none⟩)] w (fun e w' => e = .returned (.int .i64 0) ∧ ∃ (d : (Two p1 g1 p2 g2).L.St) (F' : Nat → Prop), LD p1 g1 p2 g2 w0 w' d F' L0 L1 false o1 m ∧ See d.1 L0 false 0 ∧ Mv (Two p1 g1 p2 g2).L w F w' d F') := by
  obtain ⟨F1, h1, hl⟩ := pair_fst h.live.at_
  obtain ⟨e1, h2⟩ := h.d0.flush_yes rfl
  have hc := flush_any h1.1 0 (by rw [h.d0.ds]; omega)
  rw [e1] at hc
  refine hc.mono fun _ _ hr => ?_
  obtain ⟨rfl, F', hmv⟩ := hl (RetS.reta ((flush_dsM _ _).trans h.d0.ds) hr)
  exact ⟨rfl, _, F', ⟨h.live.step hmv, h2.more (Nat.zero_le _), h.d1⟩, h2, hmv⟩
theorem ld2_flush1 (h : LD p1 g1 p2 g2 w0 w d F L0 L1 o0 false m) (hw : See d.1 L0 o0 0) :
    Calls Try.prog 52 #[.pointer (some ⟨g2, 0, none⟩)] w (RetD2 (.int .i64 0) p1 g1 p2 g2 w0 L0 L1 o0 false 0 F w) := by
  obtain ⟨F1, h1, hl⟩ := pair_snd h.live.at_
  obtain ⟨e1, h2⟩ := h.d1.flush_yes rfl
  have hc := flush_any h1.1 0 (by rw [h.d1.ds]; omega)
  rw [e1] at hc
  refine hc.mono fun _ _ hr => ?_
  obtain ⟨rfl, F', hmv⟩ := hl (RetS.reta ((flush_dsM _ _).trans h.d1.ds) hr)
  exact ⟨rfl, _, F', ⟨h.live.step hmv, hw, h2⟩, hmv⟩
/-- A device's dump, beneath a mirror of which nothing waits. -/
theorem lm_dump0 (h : LM p1 g1 p2 g2 G g w0 w s F x 0) : Calls Try.prog 50 #[.pointer (some ⟨g1, 0, none⟩)] w (fun e w' => ∃ A c, e = .returned (.slice A x.a.length c) ∧ w'.ownsRow w.heap.size 37 128 (.slice A x.a.length c) x.a.length (svs x.l0) ∧ Below w.heap.size w w') := by
  obtain ⟨F1, h1, h2, _⟩ := ml_fst h.live.at_
  refine (dump_sys h1 0 (by rw [h2]; omega)).mono ?_
  rintro e w' ⟨A, n, c, rfl, ho, hb⟩
  have hst : (s.d.1.at 0).st = x.l0 := h.sees.d0.stable
  rw [hst] at ho
  have hn : x.a.length = n := by have h3 := ho.1; rw [svs_length (by rw [← hst]; exact (h1.ok (k := 0) (by rw [h2]; omega)).st)] at h3; have := h.sees.n0; omega
  rw [hn]
  exact ⟨A, c, rfl, ho, hb⟩
theorem lm_dump1 (h : LM p1 g1 p2 g2 G g w0 w s F x 0) : Calls Try.prog 50 #[.pointer (some ⟨g2, 0, none⟩)] w (fun e w' => ∃ A c, e = .returned (.slice A x.a.length c) ∧ w'.ownsRow w.heap.size 37 128 (.slice A x.a.length c) x.a.length (svs x.l1) ∧ Below w.heap.size w w') := by
  obtain ⟨F1, h1, h2, _⟩ := ml_snd h.live.at_
  refine (dump_sys h1 0 (by rw [h2]; omega)).mono ?_
  rintro e w' ⟨A, n, c, rfl, ho, hb⟩
  have hst : (s.d.2.at 0).st = x.l1 := h.sees.d1.stable
  rw [hst] at ho
  have hn : x.a.length = n := by have h3 := ho.1; rw [svs_length (by rw [← hst]; exact (h1.ok (k := 0) (by rw [h2]; omega)).st)] at h3; have := h.sees.n1; omega
  rw [hn]
  exact ⟨A, c, rfl, ho, hb⟩
end
section
open Go.ChangeShapes Go.WideShapes
variable {H : Type} {enc : TypeId × Value → H} {w : World} {r : Reach} {b0 base : Nat} {spare : Nat → Bool} {held : Bool}
set_option maxRecDepth 100000 in
/-- Six pairs that came in by value. -/
theorem open_six {v : Value} {d : DataW H} {ps : List MemPlace} (hval : Value.okWide Try.prog w r b0 92 v) (h : DataW.Trod enc Try.prog w base spare held 92 v d ps) :
    ∃ l : List (UInt8 × UInt8), l.length = 6 ∧ v = .agg (prs l).toArray := by
  have hcn : Try.prog.cellsOf 92 = 12 := by kernel_rfl
  have hc2 : Try.prog.cellsOf 54 = 2 := by kernel_rfl
  obtain ⟨cs, rfl, hsz⟩ : ∃ cs, v = .agg cs ∧ cs.size = 12 := by
    have h1 := hval
    simp only [Value.okWide, Try.underlying92] at h1
    obtain ⟨cs, e1, e2, _⟩ := h1
    exact ⟨cs, e1, by rw [e2, hcn]⟩
  obtain ⟨fuel, hf⟩ := h
  obtain ⟨xs, m, _, _, hl, hx, hel⟩ := DataW.trod_array Try.underlying92 hf
  have each : ∀ i, i < 6 → ∃ y : UInt8 × UInt8, (cs.toList.drop (i * 2)).take 2 = prV y := by
    intro i hi
    have h1 := hel i hi
    rw [List.getElem?_eq_getElem (by omega), hc2] at h1
    exact pair_of_trod h1
  obtain ⟨y0, e0⟩ := each 0 (by omega)
  obtain ⟨y1, e1⟩ := each 1 (by omega)
  obtain ⟨y2, e2⟩ := each 2 (by omega)
  obtain ⟨y3, e3⟩ := each 3 (by omega)
  obtain ⟨y4, e4⟩ := each 4 (by omega)
  obtain ⟨y5, e5⟩ := each 5 (by omega)
  refine ⟨[y0, y1, y2, y3, y4, y5], rfl, ?_⟩
  obtain ⟨L⟩ := cs
  have hL : L.length = 12 := hsz
  match L, hL with
  | [a0, a1, a2, a3, a4, a5, a6, a7, a8, a9, a10, a11], _ =>
    simp [prV] at e0 e1 e2 e3 e4 e5
    simp [prs, prV, e0, e1, e2, e3, e4, e5]
end
end Go.Proofs.Ytniamllcoemikaa.Mi
