/-
  Texts of this seat, one behind the other: ChCols, ChPlain, ChWord4, ChRounds, ChKey, ChTold, ChBlock.
-/
import Derived.Deep.QuietTactic
import Derived.BigQuiet
import Derived.Deep.LoopGhost
import Derived.Deep.DrawnRows
import Derived.Laws.CopyOwn
import Derived.Laws.Rows
import Derived.BigRegion
import Derived.Deep.RegionHeld
import Derived.Test.YtippbjpodnnhiaaDoorDk7

namespace Go.Proofs.YtippbjpodnnhiaaDoor
open Go.RowKit
/-- A quarter round of the numbers at four places of a state. -/
def qs (s : List UInt32) (a b c d : Nat) : List UInt32 :=
  let q := qq (s.getD a 0) (s.getD b 0) (s.getD c 0) (s.getD d 0)
  (((s.set a q.1).set b q.2.1).set c q.2.2.1).set d q.2.2.2
theorem qs_length (s : List UInt32) (a b c d : Nat) : (qs s a b c d).length = s.length := by simp [qs]
/-- The first n quarter rounds of the (slanted by t) columns. -/
def colsTo (t : Nat) (s : List UInt32) : Nat → List UInt32
  | 0 => s
  | n + 1 => qs (colsTo t s n) n (4 + (n + t) % 4) (8 + (n + 2 * t) % 4) (12 + (n + 3 * t) % 4)
theorem colsTo_length (t : Nat) (s : List UInt32) : ∀ n, (colsTo t s n).length = s.length
  | 0 => rfl
  | n + 1 => by rw [colsTo, qs_length, colsTo_length t s n]
theorem heap_set4 {wr : World} {g k b c d : Nat} {t : List UInt32} {ty : TypeId} (h : wr.heap[g]? = some (.cells (uv t) ty (0, 0))) (x0 x1 x2 x3 : UInt32) :
    ((((wr.setCell ⟨g, k, none⟩ (.int .u32 (x0.toNat : Int))).setCell ⟨g, b, none⟩ (.int .u32 (x1.toNat : Int))).setCell ⟨g, c, none⟩ (.int .u32 (x2.toNat : Int))).setCell ⟨g, d, none⟩ (.int .u32 (x3.toNat : Int))).heap[g]? =
      some (.cells (uv ((((t.set k x0).set b x1).set c x2).set d x3)) ty (0, 0)) := by
  rw [← uv_set, ← uv_set, ← uv_set, ← uv_set]
  exact heap_setCell_same _ _ _ _ _ _ (heap_setCell_same _ _ _ _ _ _ (heap_setCell_same _ _ _ _ _ _ (heap_setCell_same _ _ _ _ _ _ h)))
theorem heap_other4 {wr : World} {g g' k b c d : Nat} (h : g' ≠ g) (x0 x1 x2 x3 : Value) :
    ((((wr.setCell ⟨g, k, none⟩ x0).setCell ⟨g, b, none⟩ x1).setCell ⟨g, c, none⟩ x2).setCell ⟨g, d, none⟩ x3).heap[g']? = wr.heap[g']? := by
  rw [heap_setCell_other _ _ _ _ h, heap_setCell_other _ _ _ _ h, heap_setCell_other _ _ _ _ h, heap_setCell_other _ _ _ _ h]
theorem below_set4 {w wr : World} (h : Below w.heap.size w wr) (k b c d : Nat) (x0 x1 x2 x3 : Value) :
    Below w.heap.size w ((((wr.setCell ⟨w.heap.size, k, none⟩ x0).setCell ⟨w.heap.size, b, none⟩ x1).setCell ⟨w.heap.size, c, none⟩ x2).setCell ⟨w.heap.size, d, none⟩ x3) :=
  (((h.setCell (Nat.le_refl _) _).setCell (Nat.le_refl _) _).setCell (Nat.le_refl _) _).setCell (Nat.le_refl _) _

/-- A walk's state: k columns are done, the state's block and the result's are the two that the call made first. -/
def Cols (w wr : World) (t : Nat) (s : List UInt32) (k : Nat) (u : List UInt32) (A : TypeId) : Prop :=
  u.length = 16 ∧ u = colsTo t s k ∧ wr.heap[w.heap.size]? = some (.cells (uv u) A (0, 0)) ∧ wr.heap[w.heap.size + 1]? = some (.cells (uv (List.replicate 16 0)) A (0, 0)) ∧ Below w.heap.size w wr
/-- Ten double rounds, and so on. -/
def dbl (s : List UInt32) : Nat → List UInt32
  | 0 => s
  | n + 1 => colsTo 1 (colsTo 0 (dbl s n) 4) 4
theorem dbl_length (s : List UInt32) : ∀ n, (dbl s n).length = s.length
  | 0 => rfl
  | n + 1 => by rw [dbl, colsTo_length, colsTo_length, dbl_length s n]
def halfs (s : List UInt32) : Nat → List UInt32
  | 0 => s
  | n + 1 => colsTo (n % 2) (halfs s n) 4
theorem halfs_length (s : List UInt32) : ∀ n, (halfs s n).length = s.length
  | 0 => rfl
  | n + 1 => by rw [halfs, colsTo_length, halfs_length s n]
theorem halfs_dbl (s : List UInt32) : ∀ n, halfs s (2 * n) = dbl s n
  | 0 => rfl
  | n + 1 => by
    rw [show 2 * (n + 1) = 2 * n + 1 + 1 by omega, halfs, halfs, halfs_dbl s n, dbl, show 2 * n % 2 = 0 by omega, show (2 * n + 1) % 2 = 1 by omega]
/-- Behind ten double rounds. -/
def rounds (s : List UInt32) : List UInt32 := dbl s 10
theorem rounds_length (s : List UInt32) : (rounds s).length = s.length := dbl_length s 10

theorem info30 : (Tryd.prog.info? 106).map (·.size) = some 16 := by kernel_rfl
attribute [local go_sem ↓] Go.wp_at_zero Go.wp_at_succ
set_option maxHeartbeats 400000 in
theorem slants_any (s : List UInt32) (hs : s.length = 16) (w : World) :
    Calls Tryd.prog 67 #[.agg (uv s)] w (RetB (.agg (uv (colsTo 1 s 4))) w) := by
  go_enter Tryd.func67, Tryd.ntmps67
  go_wp2
  go_loopw [7] (fun i wr => ∃ k : Nat, ∃ u : List UInt32, k ≤ 4 ∧ i = .int .i64 k ∧ Cols w wr 1 s k u 106) (fun i _ => 4 - (intOf i).toNat)
  case atStart => exact ⟨0, s, by omega, rfl, hs, rfl, heap_alloc2_old _ _ _, heap_alloc2_new _ _ _, ((Below.refl _ _).alloc (Nat.le_refl _) _).alloc (by simp) _⟩
  case round =>
    obtain ⟨k, u, hk, rfl, hcol⟩ := hrel
    by_cases hlt : k < 4
    · obtain ⟨b, hb⟩ : ∃ b : Nat, b = 4 + (k + 1) % 4 := ⟨_, rfl⟩
      obtain ⟨c, hc⟩ : ∃ c : Nat, c = 8 + (k + 2) % 4 := ⟨_, rfl⟩
      obtain ⟨d, hd⟩ : ∃ d : Nat, d = 12 + (k + 3) % 4 := ⟨_, rfl⟩
      have eb : 4 + ((k : Int) + 1) % 4 = (b : Int) := by omega
      have ec : 8 + ((k : Int) + 2) % 4 = (c : Int) := by omega
      have ed : 12 + ((k : Int) + 3) % 4 = (d : Int) := by omega
      have lb : 4 ≤ b ∧ b < 8 := by omega
      have lc : 8 ≤ c ∧ c < 12 := by omega
      have ld : 12 ≤ d ∧ d < 16 := by omega
      have HB := Lib.hid hb
      have HC := Lib.hid hc
      have HD := Lib.hid hd
      obtain ⟨ht, HT, hb1, hb2, hbel⟩ := hcol
      have hf : ∀ j, wr.frozen? ⟨w.heap.size, j, none⟩ = false := fun j => frozen_of_row wr _ j _ _ hb1
      obtain ⟨x0, h0⟩ : ∃ x, x = u.getD k 0 := ⟨_, rfl⟩
      have c0 : wr.cell? ⟨w.heap.size, k, none⟩ = some (.int .u32 (x0.toNat : Int)) := by rw [cell_of_row wr _ _ _ _ _ hb1, uv_get (by omega), h0]
      obtain ⟨x1, h1⟩ : ∃ x, x = u.getD b 0 := ⟨_, rfl⟩
      have c1 : wr.cell? ⟨w.heap.size, b, none⟩ = some (.int .u32 (x1.toNat : Int)) := by rw [cell_of_row wr _ _ _ _ _ hb1, uv_get (by omega), h1]
      obtain ⟨x2, h2⟩ : ∃ x, x = u.getD c 0 := ⟨_, rfl⟩
      have c2 : wr.cell? ⟨w.heap.size, c, none⟩ = some (.int .u32 (x2.toNat : Int)) := by rw [cell_of_row wr _ _ _ _ _ hb1, uv_get (by omega), h2]
      obtain ⟨x3, h3⟩ : ∃ x, x = u.getD d 0 := ⟨_, rfl⟩
      have c3 : wr.cell? ⟨w.heap.size, d, none⟩ = some (.int .u32 (x3.toNat : Int)) := by rw [cell_of_row wr _ _ _ _ _ hb1, uv_get (by omega), h3]
      have Ht := Lib.hid ht
      have HH := Lib.hid hb1
      have HH2 := Lib.hid hb2
      have HU := Lib.hid HT
      have H0 := Lib.hid h0
      have H1 := Lib.hid h1
      have H2 := Lib.hid h2
      have H3 := Lib.hid h3
      clear h0 h1 h2 h3 hb1 hb2 ht hb hc hd HT
      obtain ⟨lb1, lb2⟩ := lb
      obtain ⟨lc1, lc2⟩ := lc
      obtain ⟨ld1, ld2⟩ := ld
      have i0 : (0 : Int) ≤ (k : Int) := by omega
      have i0' : (k : Int) < 16 := by omega
      have i1 : (0 : Int) ≤ (b : Int) := by omega
      have i1' : (b : Int) < 16 := by omega
      have i2 : (0 : Int) ≤ (c : Int) := by omega
      have i2' : (c : Int) < 16 := by omega
      have i3 : (0 : Int) ≤ (d : Int) := by omega
      have i3' : (d : Int) < 16 := by omega
      go_wp2
      refine wp_region_any (by kernel_rfl) ?_
      change wpAny _ _ _ _ _ _ _ (World.drew _)
      refine wpAny_take (i := 0) (v := ?v0) rfl (by kernel_rfl) (by kernel_rfl) (by kernel_rfl) (fun _ _ _ h => h) (Or.inl ⟨by rfl, ?y0⟩) ?_
      case y0 => (intro w'; go_simp; try with_reducible rfl)
      refine wpAny_take (i := 1) (v := ?v1) rfl (by kernel_rfl) (by kernel_rfl) (by kernel_rfl) (fun _ _ _ h => h) (Or.inl ⟨by rfl, ?y1⟩) ?_
      case y1 => (intro w'; go_simp; try with_reducible rfl)
      refine wpAny_take (i := 2) (v := ?v2) rfl (by kernel_rfl) (by kernel_rfl) (by kernel_rfl) (fun _ _ _ h => h) (Or.inl ⟨by rfl, ?y2⟩) ?_
      case y2 => (intro w'; go_simp; try with_reducible rfl)
      refine wpAny_take (i := 3) (v := ?v3) rfl (by kernel_rfl) (by kernel_rfl) (by kernel_rfl) (fun _ _ _ h => h) (Or.inl ⟨by rfl, ?y3⟩) ?_
      case y3 => (intro w'; go_simp; try with_reducible rfl)
      refine wpAny_take (i := 4) (v := ?v4) rfl (by kernel_rfl) (by kernel_rfl) (by kernel_rfl) (fun _ _ _ h => h) (Or.inl ⟨by rfl, ?y4⟩) ?_
      case y4 => (intro w'; go_simp; try with_reducible rfl)
      refine wpAny_take (i := 5) (v := ?v5) rfl (by kernel_rfl) (by kernel_rfl) (by kernel_rfl) (fun _ _ _ h => h) (Or.inl ⟨by rfl, ?y5⟩) ?_
      case y5 => (intro w'; go_simp; try with_reducible rfl)
      refine wpAny_take (i := 7) (v := ?v7) rfl (by kernel_rfl) (by kernel_rfl) (by kernel_rfl) (fun _ _ _ h => h) (Or.inl ⟨by rfl, ?y7⟩) ?_
      case y7 => (intro w'; go_simp; try with_reducible rfl)
      refine wpAny_take (i := 8) (v := ?v8) rfl (by kernel_rfl) (by kernel_rfl) (by kernel_rfl) (fun _ _ _ h => h) (Or.inl ⟨by rfl, ?y8⟩) ?_
      case y8 => (intro w'; go_simp; try with_reducible rfl)
      refine wpAny_take (i := 10) (v := ?v10) rfl (by kernel_rfl) (by kernel_rfl) (by kernel_rfl) (fun _ _ _ h => h) (Or.inl ⟨by rfl, ?y10⟩) ?_
      case y10 => (intro w'; go_simp; try with_reducible rfl)
      refine wpAny_take (i := 11) (v := ?v11) rfl (by kernel_rfl) (by kernel_rfl) (by kernel_rfl) (fun _ _ _ h => h) (Or.inl ⟨by rfl, ?y11⟩) ?_
      case y11 => (intro w'; go_simp; try with_reducible rfl)
      refine wpAny_take (i := 13) (v := ?v13) rfl (by kernel_rfl) (by kernel_rfl) (by kernel_rfl) (fun _ _ _ h => h) (Or.inl ⟨by rfl, ?y13⟩) ?_
      case y13 => (intro w'; go_simp; try with_reducible rfl)
      refine wpAny_take (i := 14) (v := ?v14) rfl (by kernel_rfl) (by kernel_rfl) (by kernel_rfl) (fun _ _ _ h => h) (Or.inl ⟨by rfl, ?y14⟩) ?_
      case y14 => (intro w'; go_simp; try with_reducible rfl)
      refine wpAny_look (i := 6) (v := ?v6) rfl (by kernel_rfl) (by kernel_rfl) (by kernel_rfl) (fun _ _ _ h => h) (by rfl) ?y6 ?_
      case y6 => (go_simp; try with_reducible rfl)
      refine wpAny_look (i := 9) (v := ?v9) rfl (by kernel_rfl) (by kernel_rfl) (by kernel_rfl) (fun _ _ _ h => h) (by rfl) ?y9 ?_
      case y9 => (go_simp; try with_reducible rfl)
      refine wpAny_look (i := 12) (v := ?v12) rfl (by kernel_rfl) (by kernel_rfl) (by kernel_rfl) (fun _ _ _ h => h) (by rfl) ?y12 ?_
      case y12 => (go_simp; try with_reducible rfl)
      refine wpAny_look (i := 15) (v := ?v15) rfl (by kernel_rfl) (by kernel_rfl) (by kernel_rfl) (fun _ _ _ h => h) (by rfl) ?y15 ?_
      case y15 => (go_simp; try with_reducible rfl)
      refine wpAny_ready (rs := [16]) (by kernel_rfl) (by simp) (AllReady.cons rfl (fun K hK => ?_) AllReady.nil)
      go_simp
      refine (quarter_any x0 x1 x2 x3 _).mono ?_
      rintro e w1 ⟨rfl, rfl⟩
      go_simp
      refine hK _ _ ?_
      clear hK K
      refine wpAny_take (i := 17) (v := ?v17) rfl (by kernel_rfl) (by kernel_rfl) (by kernel_rfl) (fun _ _ _ h => h) (Or.inl ⟨by rfl, ?y17⟩) ?_
      case y17 => (intro w'; go_simp; try with_reducible rfl)
      refine wpAny_take (i := 18) (v := ?v18) rfl (by kernel_rfl) (by kernel_rfl) (by kernel_rfl) (fun _ _ _ h => h) (Or.inl ⟨by rfl, ?y18⟩) ?_
      case y18 => (intro w'; go_simp; try with_reducible rfl)
      refine wpAny_take (i := 19) (v := ?v19) rfl (by kernel_rfl) (by kernel_rfl) (by kernel_rfl) (fun _ _ _ h => h) (Or.inl ⟨by rfl, ?y19⟩) ?_
      case y19 => (intro w'; go_simp; try with_reducible rfl)
      refine wpAny_take (i := 20) (v := ?v20) rfl (by kernel_rfl) (by kernel_rfl) (by kernel_rfl) (fun _ _ _ h => h) (Or.inl ⟨by rfl, ?y20⟩) ?_
      case y20 => (intro w'; go_simp; try with_reducible rfl)
      refine wpAny_take (i := 21) (v := ?v21) rfl (by kernel_rfl) (by kernel_rfl) (by kernel_rfl) (fun _ _ _ h => h) (Or.inl ⟨by rfl, ?y21⟩) ?_
      case y21 => (intro w'; go_simp; try with_reducible rfl)
      refine wpAny_take (i := 22) (v := ?v22) rfl (by kernel_rfl) (by kernel_rfl) (by kernel_rfl) (fun _ _ _ h => h) (Or.inl ⟨by rfl, ?y22⟩) ?_
      case y22 => (intro w'; go_simp; try with_reducible rfl)
      refine wpAny_ready (rs := [23]) (by kernel_rfl) (by simp) (AllReady.cons rfl (fun K hK => ?_) AllReady.nil)
      go_simp
      refine hK _ _ ?_
      clear hK K
      refine wpAny_take (i := 24) (v := ?v24) rfl (by kernel_rfl) (by kernel_rfl) (by kernel_rfl) (fun _ _ _ h => h) (Or.inl ⟨by rfl, ?y24⟩) ?_
      case y24 => (intro w'; go_simp; try with_reducible rfl)
      refine wpAny_ready (rs := [25]) (by kernel_rfl) (by simp) (AllReady.cons rfl (fun K hK => ?_) AllReady.nil)
      go_simp
      refine hK _ _ ?_
      clear hK K
      refine wpAny_take (i := 26) (v := ?v26) rfl (by kernel_rfl) (by kernel_rfl) (by kernel_rfl) (fun _ _ _ h => h) (Or.inl ⟨by rfl, ?y26⟩) ?_
      case y26 => (intro w'; go_simp; try with_reducible rfl)
      refine wpAny_ready (rs := [27]) (by kernel_rfl) (by simp) (AllReady.cons rfl (fun K hK => ?_) AllReady.nil)
      go_simp
      refine hK _ _ ?_
      clear hK K
      refine wpAny_take (i := 28) (v := ?v28) rfl (by kernel_rfl) (by kernel_rfl) (by kernel_rfl) (fun _ _ _ h => h) (Or.inl ⟨by rfl, ?y28⟩) ?_
      case y28 => (intro w'; go_simp; try with_reducible rfl)
      refine wpAny_ready (rs := [29]) (by kernel_rfl) (by simp) (AllReady.cons rfl (fun K hK => ?_) AllReady.nil)
      go_simp
      refine hK _ _ ?_
      clear hK K
      refine wpAny_done (by kernel_rfl) ?_ _
      go_wp2
      go_roundw
      case rel => exact ⟨k + 1, qs u k b c d, by omega, by go_num, ⟨by rw [qs_length, Ht.out], by rw [colsTo, ← HU.out, HB.out, HC.out, HD.out], by rw [heap_drew, heap_set4 HH.out, H0.out, H1.out, H2.out, H3.out]; rfl, by rw [heap_drew, heap_other4 (by omega)]; exact HH2.out, by exact (below_set4 hbel _ _ _ _ _ _ _ _).drew⟩⟩
      case measure => simp [intOf]; omega
    · obtain rfl : k = 4 := by omega
      obtain ⟨ht, HT, hb1, hb2, hbel⟩ := hcol
      have hi : (Tryd.prog.info? 106).map (·.size) = some (uv u).size := by rw [uv_size, ht]; exact info30
      have Hi := Lib.hid hi
      have H1 := Lib.hid hb1
      have H2 := Lib.hid hb2
      have Ht := Lib.hid ht
      have HU := Lib.hid HT
      clear hi hb1 hb2 ht HT
      go_wp2_with (first
        | (refine wpList_load_row rfl 106 (.tmp 1) rfl w.heap.size rfl 106 (uv u) (0, 0) _ H1.out Tryd.underlying106 rfl Hi.out ?_)
        | (refine wpList_store_row rfl 106 (.tmp 2) (.tmp 49) rfl (w.heap.size + 1) (uv u) rfl rfl 106 (uv (List.replicate 16 0)) H2.out Hi.out (by rw [uv_size, uv_size, Ht.out]; rfl) (uv_one u) ?_))
      exact bodyPost_ret (v := .agg (uv u)) (results_cell_row Tryd.results67 _ _ (w.heap.size + 1) 106 (uv u) (0, 0) _ rfl (setRow_heap _ _ _ _ _ _ H2.out) Tryd.underlying106 rfl Hi.out) rfl ⟨by rw [HU.out], below_setRow hbel (by omega) _⟩
set_option maxHeartbeats 400000 in
theorem columns_any (s : List UInt32) (hs : s.length = 16) (w : World) :
    Calls Tryd.prog 68 #[.agg (uv s)] w (RetB (.agg (uv (colsTo 0 s 4))) w) := by
  go_enter Tryd.func68, Tryd.ntmps68
  go_wp2
  go_loopw [4] (fun i wr => ∃ k : Nat, ∃ u : List UInt32, k ≤ 4 ∧ i = .int .i64 k ∧ Cols w wr 0 s k u 106) (fun i _ => 4 - (intOf i).toNat)
  case atStart => exact ⟨0, s, by omega, rfl, hs, rfl, heap_alloc2_old _ _ _, heap_alloc2_new _ _ _, ((Below.refl _ _).alloc (Nat.le_refl _) _).alloc (by simp) _⟩
  case round =>
    obtain ⟨k, u, hk, rfl, hcol⟩ := hrel
    by_cases hlt : k < 4
    · obtain ⟨b, hb⟩ : ∃ b : Nat, b = 4 + (k + 0) % 4 := ⟨_, rfl⟩
      obtain ⟨c, hc⟩ : ∃ c : Nat, c = 8 + (k + 0) % 4 := ⟨_, rfl⟩
      obtain ⟨d, hd⟩ : ∃ d : Nat, d = 12 + (k + 0) % 4 := ⟨_, rfl⟩
      have eb : 4 + (k : Int) = (b : Int) := by omega
      have ec : 8 + (k : Int) = (c : Int) := by omega
      have ed : 12 + (k : Int) = (d : Int) := by omega
      have wb : IntKind.i64.wrap (b : Int) = (b : Int) := IntWalk.i64_in _ (by omega)
      have wc : IntKind.i64.wrap (c : Int) = (c : Int) := IntWalk.i64_in _ (by omega)
      have wd : IntKind.i64.wrap (d : Int) = (d : Int) := IntWalk.i64_in _ (by omega)
      have lb : 4 ≤ b ∧ b < 8 := by omega
      have lc : 8 ≤ c ∧ c < 12 := by omega
      have ld : 12 ≤ d ∧ d < 16 := by omega
      have HB := Lib.hid hb
      have HC := Lib.hid hc
      have HD := Lib.hid hd
      obtain ⟨ht, HT, hb1, hb2, hbel⟩ := hcol
      have hf : ∀ j, wr.frozen? ⟨w.heap.size, j, none⟩ = false := fun j => frozen_of_row wr _ j _ _ hb1
      obtain ⟨x0, h0⟩ : ∃ x, x = u.getD k 0 := ⟨_, rfl⟩
      have c0 : wr.cell? ⟨w.heap.size, k, none⟩ = some (.int .u32 (x0.toNat : Int)) := by rw [cell_of_row wr _ _ _ _ _ hb1, uv_get (by omega), h0]
      obtain ⟨x1, h1⟩ : ∃ x, x = u.getD b 0 := ⟨_, rfl⟩
      have c1 : wr.cell? ⟨w.heap.size, b, none⟩ = some (.int .u32 (x1.toNat : Int)) := by rw [cell_of_row wr _ _ _ _ _ hb1, uv_get (by omega), h1]
      obtain ⟨x2, h2⟩ : ∃ x, x = u.getD c 0 := ⟨_, rfl⟩
      have c2 : wr.cell? ⟨w.heap.size, c, none⟩ = some (.int .u32 (x2.toNat : Int)) := by rw [cell_of_row wr _ _ _ _ _ hb1, uv_get (by omega), h2]
      obtain ⟨x3, h3⟩ : ∃ x, x = u.getD d 0 := ⟨_, rfl⟩
      have c3 : wr.cell? ⟨w.heap.size, d, none⟩ = some (.int .u32 (x3.toNat : Int)) := by rw [cell_of_row wr _ _ _ _ _ hb1, uv_get (by omega), h3]
      have Ht := Lib.hid ht
      have HH := Lib.hid hb1
      have HH2 := Lib.hid hb2
      have HU := Lib.hid HT
      have H0 := Lib.hid h0
      have H1 := Lib.hid h1
      have H2 := Lib.hid h2
      have H3 := Lib.hid h3
      clear h0 h1 h2 h3 hb1 hb2 ht hb hc hd HT
      obtain ⟨lb1, lb2⟩ := lb
      obtain ⟨lc1, lc2⟩ := lc
      obtain ⟨ld1, ld2⟩ := ld
      have i0 : (0 : Int) ≤ (k : Int) := by omega
      have i0' : (k : Int) < 16 := by omega
      have i1 : (0 : Int) ≤ (b : Int) := by omega
      have i1' : (b : Int) < 16 := by omega
      have i2 : (0 : Int) ≤ (c : Int) := by omega
      have i2' : (c : Int) < 16 := by omega
      have i3 : (0 : Int) ≤ (d : Int) := by omega
      have i3' : (d : Int) < 16 := by omega
      go_wp2
      refine wp_region_any (by kernel_rfl) ?_
      change wpAny _ _ _ _ _ _ _ (World.drew _)
      refine wpAny_take (i := 0) (v := ?v0) rfl (by kernel_rfl) (by kernel_rfl) (by kernel_rfl) (fun _ _ _ h => h) (Or.inl ⟨by rfl, ?y0⟩) ?_
      case y0 => (intro w'; go_simp; try with_reducible rfl)
      refine wpAny_take (i := 1) (v := ?v1) rfl (by kernel_rfl) (by kernel_rfl) (by kernel_rfl) (fun _ _ _ h => h) (Or.inl ⟨by rfl, ?y1⟩) ?_
      case y1 => (intro w'; go_simp; try with_reducible rfl)
      refine wpAny_take (i := 2) (v := ?v2) rfl (by kernel_rfl) (by kernel_rfl) (by kernel_rfl) (fun _ _ _ h => h) (Or.inl ⟨by rfl, ?y2⟩) ?_
      case y2 => (intro w'; go_simp; try with_reducible rfl)
      refine wpAny_take (i := 3) (v := ?v3) rfl (by kernel_rfl) (by kernel_rfl) (by kernel_rfl) (fun _ _ _ h => h) (Or.inl ⟨by rfl, ?y3⟩) ?_
      case y3 => (intro w'; go_simp; try with_reducible rfl)
      refine wpAny_take (i := 4) (v := ?v4) rfl (by kernel_rfl) (by kernel_rfl) (by kernel_rfl) (fun _ _ _ h => h) (Or.inl ⟨by rfl, ?y4⟩) ?_
      case y4 => (intro w'; go_simp; try with_reducible rfl)
      refine wpAny_take (i := 5) (v := ?v5) rfl (by kernel_rfl) (by kernel_rfl) (by kernel_rfl) (fun _ _ _ h => h) (Or.inl ⟨by rfl, ?y5⟩) ?_
      case y5 => (intro w'; go_simp; try with_reducible rfl)
      refine wpAny_take (i := 6) (v := ?v6) rfl (by kernel_rfl) (by kernel_rfl) (by kernel_rfl) (fun _ _ _ h => h) (Or.inl ⟨by rfl, ?y6⟩) ?_
      case y6 => (intro w'; go_simp; try with_reducible rfl)
      refine wpAny_take (i := 7) (v := ?v7) rfl (by kernel_rfl) (by kernel_rfl) (by kernel_rfl) (fun _ _ _ h => h) (Or.inl ⟨by rfl, ?y7⟩) ?_
      case y7 => (intro w'; go_simp; try with_reducible rfl)
      refine wpAny_take (i := 8) (v := ?v8) rfl (by kernel_rfl) (by kernel_rfl) (by kernel_rfl) (fun _ _ _ h => h) (Or.inl ⟨by rfl, ?y8⟩) ?_
      case y8 => (intro w'; go_simp; try with_reducible rfl)
      refine wpAny_take (i := 10) (v := ?v10) rfl (by kernel_rfl) (by kernel_rfl) (by kernel_rfl) (fun _ _ _ h => h) (Or.inl ⟨by rfl, ?y10⟩) ?_
      case y10 => (intro w'; go_simp; try with_reducible rfl)
      refine wpAny_take (i := 11) (v := ?v11) rfl (by kernel_rfl) (by kernel_rfl) (by kernel_rfl) (fun _ _ _ h => h) (Or.inl ⟨by rfl, ?y11⟩) ?_
      case y11 => (intro w'; go_simp; try with_reducible rfl)
      refine wpAny_take (i := 12) (v := ?v12) rfl (by kernel_rfl) (by kernel_rfl) (by kernel_rfl) (fun _ _ _ h => h) (Or.inl ⟨by rfl, ?y12⟩) ?_
      case y12 => (intro w'; go_simp; try with_reducible rfl)
      refine wpAny_take (i := 14) (v := ?v14) rfl (by kernel_rfl) (by kernel_rfl) (by kernel_rfl) (fun _ _ _ h => h) (Or.inl ⟨by rfl, ?y14⟩) ?_
      case y14 => (intro w'; go_simp; try with_reducible rfl)
      refine wpAny_take (i := 15) (v := ?v15) rfl (by kernel_rfl) (by kernel_rfl) (by kernel_rfl) (fun _ _ _ h => h) (Or.inl ⟨by rfl, ?y15⟩) ?_
      case y15 => (intro w'; go_simp; try with_reducible rfl)
      refine wpAny_take (i := 16) (v := ?v16) rfl (by kernel_rfl) (by kernel_rfl) (by kernel_rfl) (fun _ _ _ h => h) (Or.inl ⟨by rfl, ?y16⟩) ?_
      case y16 => (intro w'; go_simp; try with_reducible rfl)
      refine wpAny_take (i := 18) (v := ?v18) rfl (by kernel_rfl) (by kernel_rfl) (by kernel_rfl) (fun _ _ _ h => h) (Or.inl ⟨by rfl, ?y18⟩) ?_
      case y18 => (intro w'; go_simp; try with_reducible rfl)
      refine wpAny_take (i := 19) (v := ?v19) rfl (by kernel_rfl) (by kernel_rfl) (by kernel_rfl) (fun _ _ _ h => h) (Or.inl ⟨by rfl, ?y19⟩) ?_
      case y19 => (intro w'; go_simp; try with_reducible rfl)
      refine wpAny_take (i := 20) (v := ?v20) rfl (by kernel_rfl) (by kernel_rfl) (by kernel_rfl) (fun _ _ _ h => h) (Or.inl ⟨by rfl, ?y20⟩) ?_
      case y20 => (intro w'; go_simp; try with_reducible rfl)
      refine wpAny_look (i := 9) (v := ?v9) rfl (by kernel_rfl) (by kernel_rfl) (by kernel_rfl) (fun _ _ _ h => h) (by rfl) ?y9 ?_
      case y9 => (go_simp; try with_reducible rfl)
      refine wpAny_look (i := 13) (v := ?v13) rfl (by kernel_rfl) (by kernel_rfl) (by kernel_rfl) (fun _ _ _ h => h) (by rfl) ?y13 ?_
      case y13 => (go_simp; try with_reducible rfl)
      refine wpAny_look (i := 17) (v := ?v17) rfl (by kernel_rfl) (by kernel_rfl) (by kernel_rfl) (fun _ _ _ h => h) (by rfl) ?y17 ?_
      case y17 => (go_simp; try with_reducible rfl)
      refine wpAny_look (i := 21) (v := ?v21) rfl (by kernel_rfl) (by kernel_rfl) (by kernel_rfl) (fun _ _ _ h => h) (by rfl) ?y21 ?_
      case y21 => (go_simp; try with_reducible rfl)
      refine wpAny_ready (rs := [22]) (by kernel_rfl) (by simp) (AllReady.cons rfl (fun K hK => ?_) AllReady.nil)
      go_simp
      refine (quarter_any x0 x1 x2 x3 _).mono ?_
      rintro e w1 ⟨rfl, rfl⟩
      go_simp
      refine hK _ _ ?_
      clear hK K
      refine wpAny_take (i := 23) (v := ?v23) rfl (by kernel_rfl) (by kernel_rfl) (by kernel_rfl) (fun _ _ _ h => h) (Or.inl ⟨by rfl, ?y23⟩) ?_
      case y23 => (intro w'; go_simp; try with_reducible rfl)
      refine wpAny_take (i := 24) (v := ?v24) rfl (by kernel_rfl) (by kernel_rfl) (by kernel_rfl) (fun _ _ _ h => h) (Or.inl ⟨by rfl, ?y24⟩) ?_
      case y24 => (intro w'; go_simp; try with_reducible rfl)
      refine wpAny_take (i := 25) (v := ?v25) rfl (by kernel_rfl) (by kernel_rfl) (by kernel_rfl) (fun _ _ _ h => h) (Or.inl ⟨by rfl, ?y25⟩) ?_
      case y25 => (intro w'; go_simp; try with_reducible rfl)
      refine wpAny_take (i := 26) (v := ?v26) rfl (by kernel_rfl) (by kernel_rfl) (by kernel_rfl) (fun _ _ _ h => h) (Or.inl ⟨by rfl, ?y26⟩) ?_
      case y26 => (intro w'; go_simp; try with_reducible rfl)
      refine wpAny_take (i := 27) (v := ?v27) rfl (by kernel_rfl) (by kernel_rfl) (by kernel_rfl) (fun _ _ _ h => h) (Or.inl ⟨by rfl, ?y27⟩) ?_
      case y27 => (intro w'; go_simp; try with_reducible rfl)
      refine wpAny_take (i := 28) (v := ?v28) rfl (by kernel_rfl) (by kernel_rfl) (by kernel_rfl) (fun _ _ _ h => h) (Or.inl ⟨by rfl, ?y28⟩) ?_
      case y28 => (intro w'; go_simp; try with_reducible rfl)
      refine wpAny_ready (rs := [29]) (by kernel_rfl) (by simp) (AllReady.cons rfl (fun K hK => ?_) AllReady.nil)
      go_simp
      refine hK _ _ ?_
      clear hK K
      refine wpAny_take (i := 30) (v := ?v30) rfl (by kernel_rfl) (by kernel_rfl) (by kernel_rfl) (fun _ _ _ h => h) (Or.inl ⟨by rfl, ?y30⟩) ?_
      case y30 => (intro w'; go_simp; try with_reducible rfl)
      refine wpAny_ready (rs := [31]) (by kernel_rfl) (by simp) (AllReady.cons rfl (fun K hK => ?_) AllReady.nil)
      go_simp
      refine hK _ _ ?_
      clear hK K
      refine wpAny_take (i := 32) (v := ?v32) rfl (by kernel_rfl) (by kernel_rfl) (by kernel_rfl) (fun _ _ _ h => h) (Or.inl ⟨by rfl, ?y32⟩) ?_
      case y32 => (intro w'; go_simp; try with_reducible rfl)
      refine wpAny_ready (rs := [33]) (by kernel_rfl) (by simp) (AllReady.cons rfl (fun K hK => ?_) AllReady.nil)
      go_simp
      refine hK _ _ ?_
      clear hK K
      refine wpAny_take (i := 34) (v := ?v34) rfl (by kernel_rfl) (by kernel_rfl) (by kernel_rfl) (fun _ _ _ h => h) (Or.inl ⟨by rfl, ?y34⟩) ?_
      case y34 => (intro w'; go_simp; try with_reducible rfl)
      refine wpAny_ready (rs := [35]) (by kernel_rfl) (by simp) (AllReady.cons rfl (fun K hK => ?_) AllReady.nil)
      go_simp
      refine hK _ _ ?_
      clear hK K
      refine wpAny_done (by kernel_rfl) ?_ _
      go_wp2
      go_roundw
      case rel => exact ⟨k + 1, qs u k b c d, by omega, by go_num, ⟨by rw [qs_length, Ht.out], by rw [colsTo, ← HU.out, HB.out, HC.out, HD.out], by rw [heap_drew, heap_set4 HH.out, H0.out, H1.out, H2.out, H3.out]; rfl, by rw [heap_drew, heap_other4 (by omega)]; exact HH2.out, by exact (below_set4 hbel _ _ _ _ _ _ _ _).drew⟩⟩
      case measure => simp [intOf]; omega
    · obtain rfl : k = 4 := by omega
      obtain ⟨ht, HT, hb1, hb2, hbel⟩ := hcol
      have hi : (Tryd.prog.info? 106).map (·.size) = some (uv u).size := by rw [uv_size, ht]; exact info30
      have Hi := Lib.hid hi
      have H1 := Lib.hid hb1
      have H2 := Lib.hid hb2
      have Ht := Lib.hid ht
      have HU := Lib.hid HT
      clear hi hb1 hb2 ht HT
      go_wp2_with (first
        | (refine wpList_load_row rfl 106 (.tmp 1) rfl w.heap.size rfl 106 (uv u) (0, 0) _ H1.out Tryd.underlying106 rfl Hi.out ?_)
        | (refine wpList_store_row rfl 106 (.tmp 2) (.tmp 40) rfl (w.heap.size + 1) (uv u) rfl rfl 106 (uv (List.replicate 16 0)) H2.out Hi.out (by rw [uv_size, uv_size, Ht.out]; rfl) (uv_one u) ?_))
      exact bodyPost_ret (v := .agg (uv u)) (results_cell_row Tryd.results68 _ _ (w.heap.size + 1) 106 (uv u) (0, 0) _ rfl (setRow_heap _ _ _ _ _ _ H2.out) Tryd.underlying106 rfl Hi.out) rfl ⟨by rw [HU.out], below_setRow hbel (by omega) _⟩
end Go.Proofs.YtippbjpodnnhiaaDoor

namespace Go.Proofs.YtippbjpodnnhiaaDoor
open Go.RowKit
/-- Four bytes as a number, the least first. -/
def w4 (b0 b1 b2 b3 : UInt8) : UInt32 :=
  ((UInt32.ofNat b0.toNat ||| (UInt32.ofNat b1.toNat <<< UInt32.ofNat 8)) ||| (UInt32.ofNat b2.toNat <<< UInt32.ofNat 16)) ||| (UInt32.ofNat b3.toNat <<< UInt32.ofNat 24)
def wordL (l : List UInt8) : UInt32 := w4 (l.getD 0 0) (l.getD 1 0) (l.getD 2 0) (l.getD 3 0)
/-- A key's state, as far as its first n numbers are laid. -/
def keyTo (k : List UInt8) : Nat → List UInt32
  | 0 => [0x61707865, 0x3320646e, 0x79622d32, 0x6b206574, 0, 0, 0, 0, 0, 0, 0, 0, 0, 0, 0, 0]
  | n + 1 => (keyTo k n).set (4 + n) (wordL (k.drop (4 * n)))
theorem keyTo_length (k : List UInt8) : ∀ n, (keyTo k n).length = 16
  | 0 => rfl
  | n + 1 => by rw [keyTo, List.length_set, keyTo_length k n]
def keyL (k : List UInt8) (c : UInt32) (n : Nat) : List UInt32 := (((keyTo k 8).set 12 c).set 14 (UInt32.ofNat n)).set 15 (UInt32.ofNat (n / 4294967296))
theorem keyL_length (k : List UInt8) (c : UInt32) (n : Nat) : (keyL k c n).length = 16 := by simp [keyL, keyTo_length]
/-- The sums of each two numbers, as far as the first n. -/
def csumsTo (s t : List UInt32) : Nat → List UInt32
  | 0 => s
  | n + 1 => (csumsTo s t n).set n ((csumsTo s t n).getD n 0 + t.getD n 0)
theorem csumsTo_length (s t : List UInt32) : ∀ n, (csumsTo s t n).length = s.length
  | 0 => rfl
  | n + 1 => by rw [csumsTo, List.length_set, csumsTo_length s t n]
theorem sumsTo_get (s t : List UInt32) : ∀ n i, (csumsTo s t n).getD i 0 = if i < n ∧ i < s.length then s.getD i 0 + t.getD i 0 else s.getD i 0
  | 0, i => by simp [csumsTo]
  | n + 1, i => by
    rw [csumsTo]
    by_cases h : i = n
    · subst h
      by_cases hl : i < s.length
      · have hl' : i < (csumsTo s t i).length := by rw [csumsTo_length]; exact hl
        rw [if_pos ⟨by omega, hl⟩, List.getD_eq_getElem?_getD, List.getElem?_set_self hl', Option.getD_some, sumsTo_get s t i i, if_neg (by omega)]
      · rw [if_neg (by omega), List.getD_eq_getElem?_getD, List.getElem?_eq_none (by simp [csumsTo_length]; omega), List.getD_eq_getElem?_getD, List.getElem?_eq_none (by omega)]
    · rw [List.getD_eq_getElem?_getD, List.getElem?_set_ne (fun e => h e.symm), ← List.getD_eq_getElem?_getD, sumsTo_get s t n i]
      by_cases hc : i < n ∧ i < s.length
      · rw [if_pos hc, if_pos ⟨by omega, hc.2⟩]
      · rw [if_neg hc, if_neg (by omega)]
/-- A byte of a number, the least first. -/
def byteAt (x : UInt32) (j : Nat) : UInt8 := UInt8.ofNat (x.toNat / 2 ^ (8 * j))
/-- The bytes of a state. -/
def toldL (s : List UInt32) : List UInt8 := (List.range 64).map fun i => byteAt (s.getD (i / 4) 0) (i % 4)
theorem toldL_length (s : List UInt32) : (toldL s).length = 64 := by simp [toldL]
/-- A key's block. -/
def blockL (k : List UInt8) (c : UInt32) (n : Nat) : List UInt8 := toldL (csumsTo (keyL k c n) (rounds (keyL k c n)) 16)
theorem blockL_length (k : List UInt8) (c : UInt32) (n : Nat) : (blockL k c n).length = 64 := toldL_length _
/-- A key's stream. -/
def streamL (k : List UInt8) (n size : Nat) : List UInt8 := (List.range size).map fun j => (blockL k (UInt32.ofNat (j / 64)) n).getD (j % 64) 0
theorem streamL_length (k : List UInt8) (n size : Nat) : (streamL k n size).length = size := by simp [streamL]

/-- The streams that are known of a key of noughts. -/
def knownL : List UInt8 := [118, 184, 224, 173, 160, 241, 61, 144, 64, 93, 106, 229, 83, 134, 189, 40, 189, 210, 25, 184, 160, 141, 237, 26, 168, 54, 239, 204, 139, 119, 13, 199, 218, 65, 89, 124, 81, 87, 72, 141, 119, 36, 224, 63, 184, 216, 74, 55, 106, 67, 184, 244, 21, 24, 161, 28, 195, 135, 182, 105, 178, 238, 101, 134, 159, 7, 231, 190, 85, 81, 56, 122, 152, 186, 151, 124, 115, 45, 8, 13, 203, 15, 41, 160, 72, 227, 101, 105, 18, 198, 83, 62, 50, 238, 122, 237, 41, 183, 33, 118, 156, 230, 78, 67, 213, 113, 51, 176, 116, 216, 57, 213, 49, 237, 31, 40, 81, 10, 251, 69, 172, 225, 10, 31, 75, 121, 77, 111]
set_option maxRecDepth 100000 in
theorem known0 : blockL (List.replicate 32 0) 0 0 = knownL.take 64 := by decide +kernel
set_option maxRecDepth 100000 in
theorem known1 : blockL (List.replicate 32 0) 1 0 = knownL.drop 64 := by decide +kernel
end Go.Proofs.YtippbjpodnnhiaaDoor

namespace Go.Proofs.YtippbjpodnnhiaaDoor
open Go.RowKit
theorem w4_val (b0 b1 b2 b3 : UInt8) : bits BinOp.or IntKind.u32 (bits BinOp.or IntKind.u32 (bits BinOp.or IntKind.u32 (b0.toNat : Int) ((b1.toNat : Int) * 256)) ((b2.toNat : Int) * 65536)) ((b3.toNat : Int) * 16777216) = ((w4 b0 b1 b2 b3).toNat : Int) := by
  rw [show (256 : Int) = 2 ^ 8 from rfl, show (65536 : Int) = 2 ^ 16 from rfl, show (16777216 : Int) = 2 ^ 24 from rfl, w_bshl b1 (by omega), w_bshl b2 (by omega), w_bshl b3 (by omega), w_byte b0, w_or, w_or, w_or]
  rfl
set_option maxHeartbeats 400000 in
theorem cword_any (g o n c : Nat) (b0 b1 b2 b3 : UInt8) (w : World) (hn : 4 ≤ n) (c0 : w.cell? ⟨g, o, none⟩ = some (.int .u8 (b0.toNat : Int)))
    (c1 : w.cell? ⟨g, o + 1, none⟩ = some (.int .u8 (b1.toNat : Int))) (c2 : w.cell? ⟨g, o + 2, none⟩ = some (.int .u8 (b2.toNat : Int))) (c3 : w.cell? ⟨g, o + 3, none⟩ = some (.int .u8 (b3.toNat : Int))) :
    Calls Tryd.prog 66 #[.slice (some ⟨g, o, none⟩) n c] w (RetQ (.int .u32 ((w4 b0 b1 b2 b3).toNat : Int)) w) := by
  have l0 : (0 : Int) < (n : Int) := by omega
  have l1 : (1 : Int) < (n : Int) := by omega
  have l2 : (2 : Int) < (n : Int) := by omega
  have l3 : (3 : Int) < (n : Int) := by omega
  have b0h : (b0.toNat : Int) ≤ 255 := by have := b0.toNat_lt; omega
  have b1h : (b1.toNat : Int) ≤ 255 := by have := b1.toNat_lt; omega
  have b2h : (b2.toNat : Int) ≤ 255 := by have := b2.toNat_lt; omega
  have b3h : (b3.toNat : Int) ≤ 255 := by have := b3.toNat_lt; omega
  go_enter Tryd.func66, Tryd.ntmps66
  go_wp2
  go_quiet (fail)
  go_wp2
  go_ret
  exact RetQ.mk1 (ret_int (w4_val b0 b1 b2 b3))
end Go.Proofs.YtippbjpodnnhiaaDoor

namespace Go.Proofs.YtippbjpodnnhiaaDoor
open Go.RowKit
/-- The state's block holds u, the result's noughts. -/
def Two (w wr : World) (u : List UInt32) (A : TypeId) : Prop :=
  wr.heap[w.heap.size]? = some (.cells (uv u) A (0, 0)) ∧ wr.heap[w.heap.size + 1]? = some (.cells (uv (List.replicate 16 0)) A (0, 0)) ∧ Below w.heap.size w wr
theorem Two.below {w wr w1 : World} {u : List UInt32} {A : TypeId} (h : Two w wr u A) (hb : Below wr.heap.size wr w1) : Two w w1 u A :=
  ⟨block_below h.1 hb, block_below h.2.1 hb, h.2.2.trans (hb.mono h.2.2.size)⟩
theorem Two.store {w wr : World} {u : List UInt32} {A : TypeId} (h : Two w wr u A) (u' : List UInt32) : Two w (wr.setRow w.heap.size (uv u')) u' A :=
  ⟨setRow_heap _ _ _ _ _ _ h.1, by rw [setRow_other _ _ _ _ (by omega)]; exact h.2.1, below_setRow h.2.2 (Nat.le_refl _) _⟩

set_option maxRecDepth 100000 in
set_option maxHeartbeats 400000 in
theorem rounds_any (s : List UInt32) (hs : s.length = 16) (w : World) :
    Calls Tryd.prog 65 #[.agg (uv s)] w (RetB (.agg (uv (rounds s))) w) := by
  go_enter Tryd.func65, Tryd.ntmps65
  go_wp2
  go_loopw [3] (fun i wr => ∃ k : Nat, ∃ u : List UInt32, k ≤ 10 ∧ i = .int .i64 k ∧ u.length = 16 ∧ Hid (u = dbl s k) ∧ Two w wr u 106) (fun i _ => 10 - (intOf i).toNat)
  case atStart => exact ⟨0, s, by omega, rfl, hs, rfl, heap_alloc2_old _ _ _, heap_alloc2_new _ _ _, ((Below.refl _ _).alloc (Nat.le_refl _) _).alloc (by simp) _⟩
  case round =>
    obtain ⟨k, u, hk, rfl, hu, HU, ht⟩ := hrel
    have hi : (Tryd.prog.info? 106).map (·.size) = some (uv u).size := by rw [uv_size, hu]; exact info30
    have Hi := Lib.hid hi
    have Hu := Lib.hid hu
    clear hi hu
    by_cases hlt : k < 10
    · go_wp2_with (refine wpList_load_row rfl 106 (.tmp 1) rfl w.heap.size rfl 106 (uv u) (0, 0) _ ht.1 Tryd.underlying106 rfl Hi.out ?_)
      refine (columns_any u Hu.out _).mono ?_
      rintro e w1 ⟨rfl, hb1⟩
      have t1 := ht.below hb1
      go_wp2_with fail
      refine (slants_any (colsTo 0 u 4) (by rw [colsTo_length, Hu.out]) _).mono ?_
      rintro e w2 ⟨rfl, hb2⟩
      have t2 := t1.below hb2
      have t3 := t2.store (colsTo 1 (colsTo 0 u 4) 4)
      have Hv : Hid ((colsTo 1 (colsTo 0 u 4) 4).length = 16) := by rw [colsTo_length, colsTo_length]; exact Hu.out
      go_wp2_with (refine wpList_store_row rfl 106 (.tmp 1) (.tmp 7) rfl w.heap.size (uv (colsTo 1 (colsTo 0 u 4) 4)) rfl rfl 106 (uv u) t2.1 (by rw [uv_size, Hv.out]; exact info30) (by rw [uv_size, uv_size, Hv.out, Hu.out]) (uv_one _) ?_)
      go_roundw
      case rel => exact ⟨k + 1, colsTo 1 (colsTo 0 u 4) 4, by omega, by go_num, Hv.out, by rw [HU.out]; rfl, t3⟩
      case measure => simp [intOf]; omega
    · obtain rfl : k = 10 := by omega
      obtain ⟨h1, h2, hbel⟩ := ht
      have H1 := Lib.hid h1
      have H2 := Lib.hid h2
      clear h1 h2
      go_wp2_with (first
        | (refine wpList_load_row rfl 106 (.tmp 1) rfl w.heap.size rfl 106 (uv u) (0, 0) _ H1.out Tryd.underlying106 rfl Hi.out ?_)
        | (refine wpList_store_row rfl 106 (.tmp 2) (.tmp 9) rfl (w.heap.size + 1) (uv u) rfl rfl 106 (uv (List.replicate 16 0)) H2.out Hi.out (by rw [uv_size, uv_size, Hu.out]; rfl) (uv_one u) ?_))
      exact bodyPost_ret (v := .agg (uv u)) (results_cell_row Tryd.results65 _ _ (w.heap.size + 1) 106 (uv u) (0, 0) _ rfl (setRow_heap _ _ _ _ _ _ H2.out) Tryd.underlying106 rfl Hi.out) rfl ⟨by rw [HU.out]; rfl, below_setRow hbel (by omega) _⟩
end Go.Proofs.YtippbjpodnnhiaaDoor

namespace Go.Proofs.YtippbjpodnnhiaaDoor
open Go.RowKit
theorem wordL_drop (l : List UInt8) (m : Nat) : wordL (l.drop m) = w4 (l.getD m 0) (l.getD (m + 1) 0) (l.getD (m + 2) 0) (l.getD (m + 3) 0) := by
  simp [wordL, List.getD_eq_getElem?_getD, List.getElem?_drop]
theorem keyL_blk {w : World} {g : Nat} {key : List UInt8} {A : TypeId} (h : Blk w g (uv (keyTo key 8)) A) (c : UInt32) (n : Nat) :
    Blk (((w.setCell ⟨g, 12, none⟩ (.int .u32 (c.toNat : Int))).setCell ⟨g, 14, none⟩ (.int .u32 ((n : Int) % 4294967296))).setCell ⟨g, 15, none⟩ (.int .u32 ((n : Int) / 4294967296 % 4294967296))) g (uv (keyL key c n)) A :=
  ((h.set 12 c).setv 14 (UInt32.ofNat n) (int_eq (by rw [UInt32.toNat_ofNat']; omega))).setv 15 (UInt32.ofNat (n / 4294967296)) (int_eq (by rw [UInt32.toNat_ofNat']; omega))
set_option maxHeartbeats 400000 in
theorem keyState_any (key : List UInt8) (hkey : key.length = 32) (c : UInt32) (n : Nat) (w : World) :
    Calls Tryd.prog 62 #[.agg (bva key), .int .u32 c.toNat, .int .u64 (n : Int)] w (RetB (.agg (uv (keyL key c n))) w) := by
  go_enter Tryd.func62, Tryd.ntmps62
  go_wp2
  go_loopw [10] (fun i wr => ∃ k : Nat, k ≤ 8 ∧ i = .int .i64 k ∧ Blk wr w.heap.size (bva key) 23 ∧ Blk wr (w.heap.size + 1) (uv (List.replicate 16 0)) 106 ∧ Blk wr (w.heap.size + 1 + 1) (uv (keyTo key k)) 106 ∧ Below w.heap.size w wr) (fun i _ => 8 - (intOf i).toNat)
  case atStart =>
    refine ⟨0, by omega, rfl, ?_, ?_, ?_, (((Below.refl _ _).alloc (Nat.le_refl _) _).alloc (by simp) _).alloc (by simp; omega) _⟩
    · unfold Blk
      rw [heap_alloc_old _ _ (by simp; omega)]
      exact heap_alloc2_old _ _ _
    · unfold Blk
      rw [heap_alloc_old _ _ (by simp)]
      exact heap_alloc2_new _ _ _
    · have h := heap_alloc_new ((w.alloc (.cells (bva key) 23)).alloc (.cells (uv (List.replicate 16 0)) 106)) (.cells (uv (keyTo key 0)) 106)
      have e : ((w.alloc (.cells (bva key) 23)).alloc (.cells (uv (List.replicate 16 0)) 106)).heap.size = w.heap.size + 1 + 1 := by simp
      rw [e] at h
      exact h
  case round =>
    obtain ⟨k, hk, rfl, B1, B2, B3, hbel⟩ := hrel
    by_cases hlt : k < 8
    · obtain ⟨m, hm⟩ : ∃ m : Nat, m = 4 * k := ⟨_, rfl⟩
      obtain ⟨d, hd⟩ : ∃ d : Nat, d = 4 + k := ⟨_, rfl⟩
      have em : 4 * (k : Int) = (m : Int) := by omega
      have ed : 4 + (k : Int) = (d : Int) := by omega
      have m0 : (0 : Int) ≤ (m : Int) := by omega
      have m1 : (m : Int) ≤ 28 := by omega
      have m1' : (m : Int) ≤ 32 := by omega
      have m2 : ¬ 32 = m := by omega
      have d0 : (0 : Int) ≤ (d : Int) := by omega
      have d1 : (d : Int) < 16 := by omega
      have HM := Lib.hid hm
      have HD := Lib.hid hd
      have C0 := Lib.hid (B1.cellb (k := m) (by omega))
      have C1 := Lib.hid (B1.cellb (k := m + 1) (by omega))
      have C2 := Lib.hid (B1.cellb (k := m + 2) (by omega))
      have C3 := Lib.hid (B1.cellb (k := m + 3) (by omega))
      have D0 := B3.cellu (k := d) (by rw [keyTo_length]; omega)
      have D1 := B3.free d
      clear hm hd
      go_wp2_with fail
      refine (cword_any w.heap.size m _ _ _ _ _ _ _ ?_ C0.out C1.out C2.out C3.out).mono ?_
      · have := HM.out; omega
      rintro e w1 ⟨rfl, q, rfl⟩
      go_wp2
      go_roundw
      case rel => exact ⟨k + 1, by omega, by go_num, (B1.drewN q).other (by omega) _ _, (B2.drewN q).other (by omega) _ _, by rw [keyTo, ← HM.out, ← HD.out, wordL_drop]; exact (B3.drewN q).set d _, (below_drewN' hbel q).setCell (by simp; omega) _⟩
      case measure => simp [intOf]; omega
    · obtain rfl : k = 8 := by omega
      have D12 := B3.cellu (k := 12) (by rw [keyTo_length]; omega)
      have D14 := B3.cellu (k := 14) (by rw [keyTo_length]; omega)
      have D15 := B3.cellu (k := 15) (by rw [keyTo_length]; omega)
      have F12 := B3.free 12
      have F14 := B3.free 14
      have F15 := B3.free 15
      have H2 := Lib.hid B2
      have n0 : (0 : Int) ≤ (n : Int) := by omega
      clear B1 B2
      go_wp2_with (first
        | (refine wpList_load_row rfl 106 (.tmp 7) rfl (w.heap.size + 1 + 1) rfl 106 (uv (keyL key c n)) (0, 0) _ ?hg Tryd.underlying106 rfl (by rw [uv_size, keyL_length]; exact info30) ?_; case hg => exact keyL_blk B3 c n)
        | (refine wpList_store_row rfl 106 (.tmp 6) (.tmp 30) rfl (w.heap.size + 1) (uv (keyL key c n)) rfl rfl 106 (uv (List.replicate 16 0)) ?hh (by rw [uv_size, keyL_length]; exact info30) (by rw [uv_size, uv_size, keyL_length]; rfl) (uv_one _) ?_; case hh => exact ((H2.out.other (by omega) _ _).other (by omega) _ _).other (by omega) _ _))
      exact bodyPost_ret (v := .agg (uv (keyL key c n))) (results_cell_row Tryd.results62 _ _ (w.heap.size + 1) 106 (uv (keyL key c n)) (0, 0) _ rfl (setRow_heap _ _ _ _ _ _ (((H2.out.other (by omega) _ _).other (by omega) _ _).other (by omega) _ _)) Tryd.underlying106 rfl (by rw [uv_size, keyL_length]; exact info30)) rfl ⟨rfl, below_setRow (((hbel.setCell (by simp; omega) _).setCell (by simp; omega) _).setCell (by simp; omega) _) (by omega) _⟩
end Go.Proofs.YtippbjpodnnhiaaDoor

namespace Go.Proofs.YtippbjpodnnhiaaDoor
open Go.RowKit
set_option maxHeartbeats 400000 in
theorem sums_any (s t : List UInt32) (hs : s.length = 16) (ht : t.length = 16) (w : World) :
    Calls Tryd.prog 64 #[.agg (uv s), .agg (uv t)] w (RetB (.agg (uv (csumsTo s t 16))) w) := by
  go_enter Tryd.func64, Tryd.ntmps64
  go_wp2
  go_loopw [6] (fun i wr => ∃ k : Nat, k ≤ 16 ∧ i = .int .i64 k ∧ Blk wr w.heap.size (uv (csumsTo s t k)) 106 ∧ Blk wr (w.heap.size + 1) (uv t) 106 ∧ Blk wr (w.heap.size + 1 + 1) (uv (List.replicate 16 0)) 106 ∧ Below w.heap.size w wr) (fun i _ => 16 - (intOf i).toNat)
  case atStart =>
    obtain ⟨b1, b2, b3, hb⟩ := three_blocks w (.cells (uv s) 106) (.cells (uv t) 106) (.cells (uv (List.replicate 16 0)) 106)
    exact ⟨0, by omega, rfl, b1, b2, b3, hb⟩
  case round =>
    obtain ⟨k, hk, rfl, B1, B2, B3, hbel⟩ := hrel
    by_cases hlt : k < 16
    · have k0 : (0 : Int) ≤ (k : Int) := by omega
      have k1 : (k : Int) < 16 := by omega
      obtain ⟨x, hx⟩ : ∃ x, x = (csumsTo s t k).getD k 0 := ⟨_, rfl⟩
      obtain ⟨y, hy⟩ : ∃ y, y = t.getD k 0 := ⟨_, rfl⟩
      have C0 := B1.cellu (k := k) (by rw [csumsTo_length]; omega)
      have D0 := B2.cellu (k := k) (by omega)
      rw [← hx] at C0
      rw [← hy] at D0
      have C1 := B1.free k
      have HY := Lib.hid hy
      have HX := Lib.hid hx
      have G1 := Lib.hid B1
      have G2 := Lib.hid B2
      have G3 := Lib.hid B3
      clear hx hy B1 B2 B3
      go_wp2
      go_region
      go_wp2
      go_roundw
      case rel => exact ⟨k + 1, by omega, by go_num, by rw [csumsTo, ← HX.out, ← HY.out]; exact G1.out.setv k _ (int_eq (w_add x y)), by exact G2.out.other (by omega) _ _, by exact G3.out.other (by omega) _ _, by exact (hbel.setCell (by simp) _).drew⟩
      case measure => simp [intOf]; omega
    · obtain rfl : k = 16 := by omega
      have hi : (Tryd.prog.info? 106).map (·.size) = some (uv (csumsTo s t 16)).size := by rw [uv_size, csumsTo_length, hs]; exact info30
      have Hi := Lib.hid hi
      have Hs := Lib.hid hs
      have G1 := Lib.hid B1
      have G3 := Lib.hid B3
      clear hi hs B1 B2 B3
      go_wp2_with (first
        | (refine wpList_load_row rfl 106 (.tmp 2) rfl w.heap.size rfl 106 (uv (csumsTo s t 16)) (0, 0) _ G1.out Tryd.underlying106 rfl Hi.out ?_)
        | (refine wpList_store_row rfl 106 (.tmp 4) (.tmp 18) rfl (w.heap.size + 1 + 1) (uv (csumsTo s t 16)) rfl rfl 106 (uv (List.replicate 16 0)) G3.out Hi.out (by rw [uv_size, uv_size, csumsTo_length, Hs.out]; rfl) (uv_one _) ?_))
      exact bodyPost_ret (v := .agg (uv (csumsTo s t 16))) (results_cell_row Tryd.results64 _ _ (w.heap.size + 1 + 1) 106 (uv (csumsTo s t 16)) (0, 0) _ rfl (setRow_heap _ _ _ _ _ _ G3.out) Tryd.underlying106 rfl Hi.out) rfl ⟨rfl, below_setRow hbel (by omega) _⟩
/-- A block's bytes, as far as the first n are laid. -/
def toldTo (s : List UInt32) : Nat → List UInt8
  | 0 => List.replicate 64 0
  | n + 1 => (toldTo s n).set n (byteAt (s.getD (n / 4) 0) (n % 4))
theorem toldTo_length (s : List UInt32) : ∀ n, (toldTo s n).length = 64
  | 0 => rfl
  | n + 1 => by rw [toldTo, List.length_set, toldTo_length s n]
theorem toldTo_get (s : List UInt32) : ∀ n j, j < n → n ≤ 64 → (toldTo s n)[j]? = some (byteAt (s.getD (j / 4) 0) (j % 4))
  | 0, j, h, _ => by omega
  | n + 1, j, h, h' => by
    rw [toldTo]
    by_cases e : j = n
    · subst e
      rw [List.getElem?_set_self (by rw [toldTo_length]; omega)]
    · rw [List.getElem?_set_ne (fun e' => e e'.symm)]
      exact toldTo_get s n j (by omega) (by omega)
theorem toldTo_all (s : List UInt32) : toldTo s 64 = toldL s := by
  apply List.ext_getElem?
  intro j
  by_cases h : j < 64
  · rw [toldTo_get s 64 j h (Nat.le_refl _), toldL, List.getElem?_map, List.getElem?_range h]; rfl
  · rw [List.getElem?_eq_none (by rw [toldTo_length]; omega), List.getElem?_eq_none (by rw [toldL_length]; omega)]
theorem byteAt_val (x : UInt32) {m j : Nat} (h : m = 8 * j) : (x.toNat : Int) / 2 ^ m % 256 = ((byteAt x j).toNat : Int) := by
  rw [byteAt, UInt8.toNat_ofNat', h, Int.natCast_emod, Int.natCast_ediv, Int.natCast_pow]; rfl
theorem info38 : (Tryd.prog.info? 104).map (·.size) = some 64 := by kernel_rfl
set_option maxHeartbeats 400000 in
theorem ctold_any (s : List UInt32) (hs : s.length = 16) (w : World) :
    Calls Tryd.prog 63 #[.agg (uv s)] w (RetB (.agg (bva (toldL s))) w) := by
  go_enter Tryd.func63, Tryd.ntmps63
  go_wp2
  go_loopw [5] (fun i wr => ∃ k : Nat, k ≤ 64 ∧ i = .int .i64 k ∧ Blk wr w.heap.size (uv s) 106 ∧ Blk wr (w.heap.size + 1) (bva (List.replicate 64 0)) 104 ∧ Blk wr (w.heap.size + 1 + 1) (bva (toldTo s k)) 104 ∧ Below w.heap.size w wr) (fun i _ => 64 - (intOf i).toNat)
  case atStart =>
    obtain ⟨b1, b2, b3, hb⟩ := three_blocks w (.cells (uv s) 106) (.cells (bva (List.replicate 64 0)) 104) (.cells (bva (List.replicate 64 0)) 104)
    exact ⟨0, by omega, rfl, b1, b2, b3, hb⟩
  case round =>
    obtain ⟨k, hk, rfl, B1, B2, B3, hbel⟩ := hrel
    by_cases hlt : k < 64
    · obtain ⟨d, hd⟩ : ∃ d : Nat, d = k / 4 := ⟨_, rfl⟩
      obtain ⟨m, hm⟩ : ∃ m : Nat, m = 8 * (k % 4) := ⟨_, rfl⟩
      have ed : (k : Int) / 4 = (d : Int) := by omega
      have em : 8 * ((k : Int) % 4) = (m : Int) := by omega
      have k0 : (0 : Int) ≤ (k : Int) := by omega
      have k1 : (k : Int) < 64 := by omega
      have d0 : (0 : Int) ≤ (d : Int) := by omega
      have d1 : (d : Int) < 16 := by omega
      have m0 : (0 : Int) ≤ (m : Int) := by omega
      have m1 : (m : Int) ≤ 24 := by omega
      obtain ⟨x, hx⟩ : ∃ x, x = s.getD d 0 := ⟨_, rfl⟩
      have C0 := B1.cellu (k := d) (by omega)
      rw [← hx] at C0
      have D0 := B3.cellb (k := k) (by rw [toldTo_length]; omega)
      have D1 := B3.free k
      have HX := Lib.hid hx
      have HD := Lib.hid hd
      have HM := Lib.hid hm
      have G1 := Lib.hid B1
      have G2 := Lib.hid B2
      have G3 := Lib.hid B3
      clear hx hd hm B1 B2 B3
      go_wp2
      go_roundw
      case rel => exact ⟨k + 1, by omega, by go_num, by exact G1.out.other (by omega) _ _, by exact G2.out.other (by omega) _ _, by rw [toldTo, ← HD.out, ← HX.out]; exact G3.out.setb k _ (int_eq (byteAt_val x HM.out)), by exact hbel.setCell (by simp; omega) _⟩
      case measure => simp [intOf]; omega
    · obtain rfl : k = 64 := by omega
      rw [toldTo_all] at B3
      have hi : (Tryd.prog.info? 104).map (·.size) = some (bva (toldL s)).size := by rw [bva_size, toldL_length]; exact info38
      have Hi := Lib.hid hi
      have G2 := Lib.hid B2
      have G3 := Lib.hid B3
      clear hi B1 B2 B3
      go_wp2_with (first
        | (refine wpList_load_row rfl 104 (.tmp 3) rfl (w.heap.size + 1 + 1) rfl 104 (bva (toldL s)) (0, 0) _ G3.out Tryd.underlying104 rfl Hi.out ?_)
        | (refine wpList_store_row rfl 104 (.tmp 2) (.tmp 20) rfl (w.heap.size + 1) (bva (toldL s)) rfl rfl 104 (bva (List.replicate 64 0)) G2.out Hi.out (by rw [bva_size, bva_size, toldL_length]; rfl) (bva_one _) ?_))
      exact bodyPost_ret (v := .agg (bva (toldL s))) (results_cell_row Tryd.results63 _ _ (w.heap.size + 1) 104 (bva (toldL s)) (0, 0) _ rfl (setRow_heap _ _ _ _ _ _ G2.out) Tryd.underlying104 rfl Hi.out) rfl ⟨rfl, below_setRow hbel (by omega) _⟩
end Go.Proofs.YtippbjpodnnhiaaDoor

namespace Go.Proofs.YtippbjpodnnhiaaDoor
open Go.RowKit
theorem info36 : (Tryd.prog.info? 23).map (·.size) = some 32 := by kernel_rfl
set_option maxRecDepth 100000 in
set_option maxHeartbeats 800000 in
theorem block_any (key : List UInt8) (hkey : key.length = 32) (c : UInt32) (n : Nat) (w : World) :
    Calls Tryd.prog 61 #[.agg (bva key), .int .u32 c.toNat, .int .u64 (n : Int)] w (RetB (.agg (bva (blockL key c n))) w) := by
  have HL : Hid ((keyL key c n).length = 16) := keyL_length key c n
  have b0 := heap_alloc2_old w (.cells (bva key) 23) (.cells (bva (List.replicate 64 0)) 104)
  have b1 := heap_alloc2_new w (.cells (bva key) 23) (.cells (bva (List.replicate 64 0)) 104)
  have bb : Below w.heap.size w ((w.alloc (.cells (bva key) 23)).alloc (.cells (bva (List.replicate 64 0)) 104)) := ((Below.refl _ _).alloc (Nat.le_refl _) _).alloc (by simp) _
  have H0 := Lib.hid b0
  have H1 := Lib.hid b1
  have HB := Lib.hid bb
  have HI : Hid ((Tryd.prog.info? 23).map (·.size) = some (bva key).size) := by rw [bva_size, hkey]; exact info36
  clear b0 b1 bb
  go_enter Tryd.func61, Tryd.ntmps61
  go_wp2_with (refine wpList_load_row rfl 23 (.tmp 3) rfl w.heap.size rfl 23 (bva key) (0, 0) _ ?hg Tryd.underlying23 rfl HI.out ?_; case hg => exact H0.out)
  refine (keyState_any key hkey c n _).mono ?_
  rintro e w1 ⟨rfl, hb1⟩
  have p0 : Below w.heap.size w w1 := HB.out.trans (hb1.mono (by simp; omega))
  have p1 : w.heap.size + 1 < w1.heap.size := by have := hb1.size; simp at this; omega
  have p2 : Blk w1 (w.heap.size + 1) (bva (List.replicate 64 0)) 104 := block_below H1.out hb1
  have P2 := Lib.hid p2
  clear p2
  go_wp2_with (refine wpList_store_row rfl 106 (.tmp 7) (.tmp 11) rfl w1.heap.size (uv (keyL key c n)) rfl rfl 106 (uv (List.replicate 16 0)) (heap_alloc_new _ _) (by rw [uv_size, HL.out]; exact info30) (by rw [uv_size, uv_size, HL.out]; rfl) (uv_one _) ?_; generalize hw2 : World.setRow _ _ _ = w2)
  have q0 : Blk w2 w1.heap.size (uv (keyL key c n)) 106 := by rw [← hw2]; exact setRow_heap _ _ _ _ _ _ (heap_alloc_new _ _)
  have q1 : Blk w2 (w.heap.size + 1) (bva (List.replicate 64 0)) 104 := by
    unfold Blk
    rw [← hw2, setRow_other _ _ _ _ (by omega), heap_alloc_old _ _ p1]
    exact P2.out
  have q2 : Below w.heap.size w w2 := by rw [← hw2]; exact below_setRow (p0.alloc (by omega) _) (by omega) _
  clear hw2
  have HS : Hid ((Tryd.prog.info? 106).map (·.size) = some (uv (keyL key c n)).size) := by rw [uv_size, HL.out]; exact info30
  have HT : Hid ((Tryd.prog.info? 104).map (·.size) = some (bva (blockL key c n)).size) := by rw [bva_size, blockL_length]; exact info38
  have HR : Hid ((rounds (keyL key c n)).length = 16) := by rw [rounds_length]; exact HL.out
  refine wp_region_held_drew (S := fun w' => Blk w' w1.heap.size (uv (keyL key c n)) 106 ∧ (∃ l : List UInt8, l.length = 64 ∧ Blk w' (w.heap.size + 1) (bva l) 104) ∧ Below w.heap.size w w') (by kernel_rfl) ⟨q0, ⟨_, by simp, q1⟩, q2.drew⟩ (fun hh => ?_)
  clear q0 q1 q2
  refine wpAnyH_take (i := 0) (v := .agg (uv (keyL key c n))) rfl (by kernel_rfl) (by kernel_rfl) (by kernel_rfl) (fun _ _ _ h => h) (Or.inl ⟨by rfl, fun w' hw' => ?y0⟩) hh ?_
  case y0 => exact exec_load 106 (.tmp 7) rfl rfl hw'.1 Tryd.underlying106 rfl HS.out
  refine wpAnyH_take (i := 1) (v := .agg (uv (keyL key c n))) rfl (by kernel_rfl) (by kernel_rfl) (by kernel_rfl) (fun _ _ _ h => h) (Or.inl ⟨by rfl, fun w' hw' => ?y1⟩) hh ?_
  case y1 => exact exec_load 106 (.tmp 7) rfl rfl hw'.1 Tryd.underlying106 rfl HS.out
  have Hh := Lib.hid hh
  clear hh
  refine wpAnyH_ready (rs := [2]) (by kernel_rfl) (by simp) (AllReadyH.cons rfl (fun K hK => ?_) AllReadyH.nil)
  go_simp
  refine (rounds_any (keyL key c n) HL.out _).mono ?_
  rintro e w3 ⟨rfl, hb3⟩
  go_simp
  refine hK.out _ _ ⟨Hh.out.1.below hb3, (Hh.out.2.1.imp fun l hl => ⟨hl.1, hl.2.below hb3⟩), Hh.out.2.2.trans (hb3.mono Hh.out.2.2.size)⟩ (fun hh => ?_)
  have Hi := Lib.hid hh
  clear hh hK K Hh hb3
  refine wpAnyH_ready (rs := [3]) (by kernel_rfl) (by simp) (AllReadyH.cons rfl (fun K hK => ?_) AllReadyH.nil)
  go_simp
  refine (sums_any (keyL key c n) (rounds (keyL key c n)) HL.out HR.out _).mono ?_
  rintro e w4 ⟨rfl, hb4⟩
  go_simp
  refine hK.out _ _ ⟨Hi.out.1.below hb4, (Hi.out.2.1.imp fun l hl => ⟨hl.1, hl.2.below hb4⟩), Hi.out.2.2.trans (hb4.mono Hi.out.2.2.size)⟩ (fun hh => ?_)
  have Hj := Lib.hid hh
  clear hh hK K Hi hb4
  refine wpAnyH_ready (rs := [4]) (by kernel_rfl) (by simp) (AllReadyH.cons rfl (fun K hK => ?_) AllReadyH.nil)
  go_simp
  refine (ctold_any (csumsTo (keyL key c n) (rounds (keyL key c n)) 16) (by rw [csumsTo_length]; exact HL.out) _).mono ?_
  rintro e w5 ⟨rfl, hb5⟩
  go_simp
  refine hK.out _ _ ⟨Hj.out.1.below hb5, (Hj.out.2.1.imp fun l hl => ⟨hl.1, hl.2.below hb5⟩), Hj.out.2.2.trans (hb5.mono Hj.out.2.2.size)⟩ (fun hh => ?_)
  obtain ⟨r0, ⟨l, hl, r1⟩, r2⟩ := hh
  have R0 := Lib.hid r0
  have R1 := Lib.hid r1
  have Rl := Lib.hid hl
  clear hK K Hj hb5 r0 r1 hl
  refine wpAnyH_ready (rs := [5]) (by kernel_rfl) (by simp) (AllReadyH.cons rfl (fun K hK => ?_) AllReadyH.nil)
  rw [if_pos (by rfl)]
  refine wp_store_row 104 (.tmp 6) (.tmp 16) rfl (w.heap.size + 1) (bva (blockL key c n)) rfl rfl 104 (bva l) R1.out HT.out (by rw [bva_size, bva_size, Rl.out, blockL_length]) (bva_one _) ?_
  refine hK.out _ _ ⟨?_, ⟨_, blockL_length key c n, setRow_heap _ _ _ _ _ _ R1.out⟩, below_setRow r2 (by omega) _⟩ (fun _ => ?_)
  · unfold Blk; rw [setRow_other _ _ _ _ (by omega)]; exact R0.out
  clear hK K
  refine wpAnyH_done (by kernel_rfl) ?_ _
  go_wp2
  exact bodyPost_ret (v := .agg (bva (blockL key c n))) (results_cell_row Tryd.results61 _ _ (w.heap.size + 1) 104 (bva (blockL key c n)) (0, 0) _ rfl (setRow_heap _ _ _ _ _ _ R1.out) Tryd.underlying104 rfl HT.out) rfl ⟨rfl, below_setRow r2 (by omega) _⟩
end Go.Proofs.YtippbjpodnnhiaaDoor
