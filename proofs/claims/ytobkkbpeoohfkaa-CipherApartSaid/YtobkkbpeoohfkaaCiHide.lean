/-
  The contract of Hide, by any cipher of which the pad is known; and of the reference's Hide.
-/
import Derived.Test.YtobkkbpeoohfkaaWiXor
import Derived.Test.YtobkkbpeoohfkaaCiLit
import Derived.WideLaws
namespace Go.Proofs.Ytobkkbpeoohfkaa.Ci
open Go.RowKit
attribute [local go_sem ↓] Go.wp_at_zero Go.wp_at_succ
theorem rd_bva {w : World} {g : Nat} {l : List UInt8} {t : TypeId} (h : Blk w g (bva l) t) : Rd w.heap.size w (some ⟨g, 0, none⟩) (bv l) := fun k u hu =>
  ⟨_, rfl, h.lt, by rw [add_head, h.cell, bva, List.getElem?_toArray]; exact hu⟩
theorem eq_nil_held (T : TypeId) (x : Value) (W : World) : (binOp .eql 57 (.iface T x) .nilIface).run Try.prog W = .ok (.bool false) W :=
  run_eql_held_nil W 57 T x (by kernel_rfl)
theorem eq_nil_nil (W : World) : (binOp .eql 57 .nilIface .nilIface).run Try.prog W = .ok (.bool true) W :=
  run_eql_nil_nil W 57 (by kernel_rfl)
set_option maxRecDepth 100000 in
set_option maxHeartbeats 1600000 in
theorem hide_any (T : TypeId) (x : Value) (F : FuncId) (key pad : List UInt8) (n : Int) (A : Option Addr) (m c : Nat) (l : List UInt8) (w : World) (Q : World → Prop) (hk : key.length = 32) (hp : pad.length = 32) (hl : l.length = m) (hm : m ≤ 32)
    (hF : ∀ fuel W, (method (fuel + 1) T x "Pad").run Try.prog W = .ok (F, x) W) (hC : ∀ args W, (callFunc F args).run Try.prog W = .ok (.enter F args) W)
    (hpad : Calls Try.prog F #[x, .agg (bva key), .int .u64 n] (w.alloc (.cells (bva key) 23)) (fun e w1 => e = .returned (.agg (bva pad)) ∧ Q w1))
    (hr : ∀ w1, Q w1 → Rd w1.heap.size w1 A (bv l)) :
    Calls Try.prog 17 #[.iface T x, .agg (bva key), .int .u64 n, .slice A m c] w (fun e w' => ∃ w1, Q w1 ∧ RetRow 5 (bv (Wi.xorL l pad)) w1 e w') := by
  obtain ⟨z, hz0⟩ : ∃ z : List UInt8, z = List.replicate 32 0 := ⟨_, rfl⟩
  have hz : ∀ W, (zeroValue 30).run Try.prog W = .ok (.agg (bva z)) W := fun _ => by rw [hz0]; kernel_rfl
  have Z3 : Hid (z.length = 32) := by show _ = _; rw [hz0]; rfl
  have hq := eq_nil_held T x
  have HI : Hid ((Try.prog.info? 23).map (·.size) = some (bva key).size) := by rw [bva_size, hk]; exact info_key
  have HP : Hid ((Try.prog.info? 30).map (·.size) = some (bva pad).size) := by rw [bva_size, hp]; exact info_blk
  have HP3 := Lib.hid hp
  have b1 : Blk (w.alloc (.cells (bva key) 23)) w.heap.size (bva key) 23 := heap_alloc_new _ _
  have B1 := Lib.hid b1
  have hd : decide ((32 : Int) < (m : Int)) = false := by simp; omega
  have HL := Lib.hid hl
  have HM := Lib.hid hm
  have HPAD := Lib.hid hpad
  have HR := Lib.hid hr
  clear hz0 hk hp b1 hl hm hpad hr
  go_enter Try.func17, Try.ntmps17
  go_wp2_with (refine wpList_load_row rfl 23 (.tmp 5) rfl w.heap.size rfl 23 (bva key) (0, 0) _ ?hg Try.underlying23 rfl HI.out ?_; case hg => exact B1.out)
  refine HPAD.out.mono ?_
  rintro e w1 ⟨rfl, hQ⟩
  have HQ := Lib.hid hQ
  have RR := Lib.hid (HR.out w1 hQ)
  clear hQ HR HPAD B1
  go_wp2_with (refine wpList_store_row rfl 30 (.tmp 9) (.tmp 20) rfl w1.heap.size (bva pad) rfl rfl 30 (bva z) (heap_alloc_new _ _) HP.out (by simp only [bva_size, HP3.out, Z3.out]) (bva_one _) ?_
               generalize hw2 : World.setRow _ _ _ = w2
               have d4 : Blk w2 w1.heap.size (bva pad) 30 := by rw [← hw2]; exact blk_new _
               have db : Below w1.heap.size w1 w2 := by rw [← hw2]; exact below_new (Below.refl _ _) (Nat.le_refl _)
               have D4 := Lib.hid d4
               have DB := Lib.hid db
               clear d4 db hw2)
  refine (Wi.wxor_any A (some ⟨w1.heap.size, 0, none⟩) m 32 c 32 l pad _ HL.out HP3.out DB.out.size (Nat.le_refl _) (RR.out.below DB.out) (rd_bva D4.out) (by have := HM.out; omega) (by omega)).mono ?_
  rintro e w3 ⟨A3, n3, c3, rfl, ho, hb⟩
  have HO := Lib.hid (own_more ho DB.out.size)
  have HB := Lib.hid (DB.out.trans (hb.mono DB.out.size))
  clear ho hb
  go_wp2_with fail
  go_ret
  exact ⟨w1, HQ.out, A3, n3, c3, rfl, HO.out, HB.out⟩
set_option maxRecDepth 100000 in
theorem hide_long (T : TypeId) (x : Value) (key : List UInt8) (n : Int) (A : Option Addr) (m c : Nat) (w : World) (hm : 32 < m) :
    Calls Try.prog 17 #[.iface T x, .agg (bva key), .int .u64 n, .slice A m c] w (RetB (.slice none 0 0) w) := by
  have hq := eq_nil_held T x
  have hd : decide ((32 : Int) < (m : Int)) = true := by simp; omega
  have hb : Below w.heap.size w (w.alloc (.cells (bva key) 23)) := (Below.refl _ _).alloc (Nat.le_refl _) _
  have HB := Lib.hid hb
  clear hb hm
  go_enter Try.func17, Try.ntmps17
  go_wp2
  go_ret
  exact ⟨rfl, HB.out⟩
set_option maxRecDepth 100000 in
theorem hide_nil (key : List UInt8) (n : Int) (A : Option Addr) (m c : Nat) (w : World) :
    Calls Try.prog 17 #[.nilIface, .agg (bva key), .int .u64 n, .slice A m c] w (RetB (.slice none 0 0) w) := by
  have hq := eq_nil_nil
  have hb : Below w.heap.size w (w.alloc (.cells (bva key) 23)) := (Below.refl _ _).alloc (Nat.le_refl _) _
  have HB := Lib.hid hb
  clear hb
  go_enter Try.func17, Try.ntmps17
  go_wp2
  go_ret
  exact ⟨rfl, HB.out⟩
/-- By a cipher whose Pad turns nothing. -/
theorem hide_b (T : TypeId) (x : Value) (F : FuncId) (key pad : List UInt8) (n : Int) (A : Option Addr) (m c : Nat) (l : List UInt8) (w : World) (hk : key.length = 32) (hp : pad.length = 32) (hl : l.length = m) (hm : m ≤ 32)
    (hF : ∀ fuel W, (method (fuel + 1) T x "Pad").run Try.prog W = .ok (F, x) W) (hC : ∀ args W, (callFunc F args).run Try.prog W = .ok (.enter F args) W)
    (hpad : ∀ W, Calls Try.prog F #[x, .agg (bva key), .int .u64 n] W (RetB (.agg (bva pad)) W)) (hr : Rd w.heap.size w A (bv l)) :
    Calls Try.prog 17 #[.iface T x, .agg (bva key), .int .u64 n, .slice A m c] w (RetRow 5 (bv (Wi.xorL l pad)) w) := by
  have hb : Below w.heap.size w (w.alloc (.cells (bva key) 23)) := (Below.refl _ _).alloc (Nat.le_refl _) _
  refine (hide_any T x F key pad n A m c l w (fun w1 => Below w.heap.size w w1) hk hp hl hm hF hC ((hpad _).mono fun e w1 he => ⟨he.1, hb.trans (he.2.mono (by simp))⟩) (fun w1 h1 => (hr.below h1).more h1.size)).mono ?_
  rintro e w' ⟨w1, h1, A3, n3, c3, rfl, ho, hb3⟩
  exact ⟨A3, n3, c3, rfl, own_more ho h1.size, h1.trans (hb3.mono h1.size)⟩
set_option maxRecDepth 100000 in
set_option maxHeartbeats 800000 in
theorem refhide_any (pad : List UInt8) (hp : pad.length = 32) (A : Option Addr) (m c : Nat) (l : List UInt8) (w : World) (hl : l.length = m) (hm : m ≤ 32) (hr : Rd w.heap.size w A (bv l)) :
    Calls Try.prog 19 #[.agg (bva pad), .slice A m c] w (RetRow 5 (bv (Wi.xorL l pad)) w) := by
  have b1 : Blk (w.alloc (.cells (bva pad) 30)) w.heap.size (bva pad) 30 := heap_alloc_new _ _
  have hb : Below w.heap.size w (w.alloc (.cells (bva pad) 30)) := (Below.refl _ _).alloc (Nat.le_refl _) _
  have RR := Lib.hid ((hr.below hb).more hb.size)
  have B1 := Lib.hid b1
  have BB := Lib.hid hb
  have hd : decide ((32 : Int) < (m : Int)) = false := by simp; omega
  have HL := Lib.hid hl
  have HM := Lib.hid hm
  have HP := Lib.hid hp
  clear b1 hb hl hm hr hp
  go_enter Try.func19, Try.ntmps19
  go_wp2_with fail
  refine (Wi.rxor_any A (some ⟨w.heap.size, 0, none⟩) m 32 c 32 l pad _ HL.out HP.out (Nat.le_refl _) (Nat.le_refl _) RR.out (rd_bva B1.out) (by have := HM.out; omega) (by omega)).mono ?_
  rintro e w3 ⟨A3, n3, c3, rfl, ho, hb⟩
  have HO := Lib.hid (own_more ho BB.out.size)
  have HB := Lib.hid (BB.out.trans (hb.mono BB.out.size))
  clear ho hb
  go_wp2_with fail
  go_ret
  exact ⟨A3, n3, c3, rfl, HO.out, HB.out⟩
set_option maxRecDepth 100000 in
theorem refhide_long (pad : List UInt8) (A : Option Addr) (m c : Nat) (w : World) (hm : 32 < m) :
    Calls Try.prog 19 #[.agg (bva pad), .slice A m c] w (RetB (.slice none 0 0) w) := by
  have hd : decide ((32 : Int) < (m : Int)) = true := by simp; omega
  have hb : Below w.heap.size w (w.alloc (.cells (bva pad) 30)) := (Below.refl _ _).alloc (Nat.le_refl _) _
  have HB := Lib.hid hb
  clear hb hm
  go_enter Try.func19, Try.ntmps19
  go_wp2
  go_ret
  exact ⟨rfl, HB.out⟩
end Go.Proofs.Ytobkkbpeoohfkaa.Ci
