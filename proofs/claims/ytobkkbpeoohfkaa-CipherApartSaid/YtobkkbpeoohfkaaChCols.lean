import Derived.Test.YtobkkbpeoohfkaaArr
import Derived.Test.YtobkkbpeoohfkaaChQuart
import Derived.Test.YtobkkbpeoohfkaaHere
import Derived.Deep.QuietTactic
import Derived.BigQuiet
import Derived.Deep.LoopGhost
import Derived.Deep.DrawnRows
import Derived.Laws.CopyOwn
import Derived.Laws.Rows
namespace Go.Proofs.Ytobkkbpeoohfkaa
open Go.RowKit
/-- A quarter round of the numbers at four places of a state. -/
def qs (s : List UInt32) (a b c d : Nat) : List UInt32 :=
  let q := qq (s.getD a 0) (s.getD b 0) (s.getD c 0) (s.getD d 0)
  (((s.set a q.1).set b q.2.1).set c q.2.2.1).set d q.2.2.2
theorem qs_length (s : List UInt32) (a b c d : Nat) : (qs s a b c d).length = s.length := by simp [qs]
/-- The first n quarter rounds of the (slanted by t) columns. -/
def colsTo (t : Nat) (s : List UInt32) : Nat → List UInt32
  | 0 => s
  | n + 1 => qs (colsTo t s n) n (4 + (n + t) % 4) (8 + (n + 2 * t) % 4) (12 + (n + 3 * t) % 4)
theorem colsTo_length (t : Nat) (s : List UInt32) : ∀ n, (colsTo t s n).length = s.length
  | 0 => rfl
  | n + 1 => by rw [colsTo, qs_length, colsTo_length t s n]
theorem heap_set4 {wr : World} {g k b c d : Nat} {t : List UInt32} {ty : TypeId} (h : wr.heap[g]? = some (.cells (uv t) ty (0, 0))) (x0 x1 x2 x3 : UInt32) :
    ((((wr.setCell ⟨g, k, none⟩ (.int .u32 (x0.toNat : Int))).setCell ⟨g, b, none⟩ (.int .u32 (x1.toNat : Int))).setCell ⟨g, c, none⟩ (.int .u32 (x2.toNat : Int))).setCell ⟨g, d, none⟩ (.int .u32 (x3.toNat : Int))).heap[g]? =
      some (.cells (uv ((((t.set k x0).set b x1).set c x2).set d x3)) ty (0, 0)) := by
  rw [← uv_set, ← uv_set, ← uv_set, ← uv_set]
  exact heap_setCell_same _ _ _ _ _ _ (heap_setCell_same _ _ _ _ _ _ (heap_setCell_same _ _ _ _ _ _ (heap_setCell_same _ _ _ _ _ _ h)))
theorem heap_other4 {wr : World} {g g' k b c d : Nat} (h : g' ≠ g) (x0 x1 x2 x3 : Value) :
    ((((wr.setCell ⟨g, k, none⟩ x0).setCell ⟨g, b, none⟩ x1).setCell ⟨g, c, none⟩ x2).setCell ⟨g, d, none⟩ x3).heap[g']? = wr.heap[g']? := by
  rw [heap_setCell_other _ _ _ _ h, heap_setCell_other _ _ _ _ h, heap_setCell_other _ _ _ _ h, heap_setCell_other _ _ _ _ h]
theorem below_set4 {w wr : World} (h : Below w.heap.size w wr) (k b c d : Nat) (x0 x1 x2 x3 : Value) :
    Below w.heap.size w ((((wr.setCell ⟨w.heap.size, k, none⟩ x0).setCell ⟨w.heap.size, b, none⟩ x1).setCell ⟨w.heap.size, c, none⟩ x2).setCell ⟨w.heap.size, d, none⟩ x3) :=
  (((h.setCell (Nat.le_refl _) _).setCell (Nat.le_refl _) _).setCell (Nat.le_refl _) _).setCell (Nat.le_refl _) _

/-- A walk's state: k columns are done, the state's block and the result's are the two that the call made first. -/
def Cols (w wr : World) (t : Nat) (s : List UInt32) (k : Nat) (u : List UInt32) (A : TypeId) : Prop :=
  u.length = 16 ∧ u = colsTo t s k ∧ wr.heap[w.heap.size]? = some (.cells (uv u) A (0, 0)) ∧ wr.heap[w.heap.size + 1]? = some (.cells (uv (List.replicate 16 0)) A (0, 0)) ∧ Below w.heap.size w wr
/-- Ten double rounds, and so on. -/
def dbl (s : List UInt32) : Nat → List UInt32
  | 0 => s
  | n + 1 => colsTo 1 (colsTo 0 (dbl s n) 4) 4
theorem dbl_length (s : List UInt32) : ∀ n, (dbl s n).length = s.length
  | 0 => rfl
  | n + 1 => by rw [dbl, colsTo_length, colsTo_length, dbl_length s n]
def halfs (s : List UInt32) : Nat → List UInt32
  | 0 => s
  | n + 1 => colsTo (n % 2) (halfs s n) 4
theorem halfs_length (s : List UInt32) : ∀ n, (halfs s n).length = s.length
  | 0 => rfl
  | n + 1 => by rw [halfs, colsTo_length, halfs_length s n]
theorem halfs_dbl (s : List UInt32) : ∀ n, halfs s (2 * n) = dbl s n
  | 0 => rfl
  | n + 1 => by
    rw [show 2 * (n + 1) = 2 * n + 1 + 1 by omega, halfs, halfs, halfs_dbl s n, dbl, show 2 * n % 2 = 0 by omega, show (2 * n + 1) % 2 = 1 by omega]
/-- Behind ten double rounds. -/
def rounds (s : List UInt32) : List UInt32 := dbl s 10
theorem rounds_length (s : List UInt32) : (rounds s).length = s.length := dbl_length s 10

theorem info30 : (Try.prog.info? 64).map (·.size) = some 16 := by kernel_rfl
attribute [local go_sem ↓] Go.wp_at_zero Go.wp_at_succ
set_option maxHeartbeats 400000 in
theorem slants_any (s : List UInt32) (hs : s.length = 16) (w : World) :
    Calls Try.prog 47 #[.agg (uv s)] w (RetB (.agg (uv (colsTo 1 s 4))) w) := by
  go_enter Try.func47, Try.ntmps47
  go_wp2
  go_loopw [7] (fun i wr => ∃ k : Nat, ∃ u : List UInt32, k ≤ 4 ∧ i = .int .i64 k ∧ Cols w wr 1 s k u 64) (fun i _ => 4 - (intOf i).toNat)
  case atStart => exact ⟨0, s, by omega, rfl, hs, rfl, heap_alloc2_old _ _ _, heap_alloc2_new _ _ _, ((Below.refl _ _).alloc (Nat.le_refl _) _).alloc (by simp) _⟩
  case round =>
    obtain ⟨k, u, hk, rfl, hcol⟩ := hrel
    by_cases hlt : k < 4
    · obtain ⟨b, hb⟩ : ∃ b : Nat, b = 4 + (k + 1) % 4 := ⟨_, rfl⟩
      obtain ⟨c, hc⟩ : ∃ c : Nat, c = 8 + (k + 2) % 4 := ⟨_, rfl⟩
      obtain ⟨d, hd⟩ : ∃ d : Nat, d = 12 + (k + 3) % 4 := ⟨_, rfl⟩
      have eb : 4 + ((k : Int) + 1) % 4 = (b : Int) := by omega
      have ec : 8 + ((k : Int) + 2) % 4 = (c : Int) := by omega
      have ed : 12 + ((k : Int) + 3) % 4 = (d : Int) := by omega
      have lb : 4 ≤ b ∧ b < 8 := by omega
      have lc : 8 ≤ c ∧ c < 12 := by omega
      have ld : 12 ≤ d ∧ d < 16 := by omega
      have HB := Lib.hid hb
      have HC := Lib.hid hc
      have HD := Lib.hid hd
      obtain ⟨ht, HT, hb1, hb2, hbel⟩ := hcol
      have hf : ∀ j, wr.frozen? ⟨w.heap.size, j, none⟩ = false := fun j => frozen_of_row wr _ j _ _ hb1
      obtain ⟨x0, h0⟩ : ∃ x, x = u.getD k 0 := ⟨_, rfl⟩
      have c0 : wr.cell? ⟨w.heap.size, k, none⟩ = some (.int .u32 (x0.toNat : Int)) := by rw [cell_of_row wr _ _ _ _ _ hb1, uv_get (by omega), h0]
      obtain ⟨x1, h1⟩ : ∃ x, x = u.getD b 0 := ⟨_, rfl⟩
      have c1 : wr.cell? ⟨w.heap.size, b, none⟩ = some (.int .u32 (x1.toNat : Int)) := by rw [cell_of_row wr _ _ _ _ _ hb1, uv_get (by omega), h1]
      obtain ⟨x2, h2⟩ : ∃ x, x = u.getD c 0 := ⟨_, rfl⟩
      have c2 : wr.cell? ⟨w.heap.size, c, none⟩ = some (.int .u32 (x2.toNat : Int)) := by rw [cell_of_row wr _ _ _ _ _ hb1, uv_get (by omega), h2]
      obtain ⟨x3, h3⟩ : ∃ x, x = u.getD d 0 := ⟨_, rfl⟩
      have c3 : wr.cell? ⟨w.heap.size, d, none⟩ = some (.int .u32 (x3.toNat : Int)) := by rw [cell_of_row wr _ _ _ _ _ hb1, uv_get (by omega), h3]
      have Ht := Lib.hid ht
      have HH := Lib.hid hb1
      have HH2 := Lib.hid hb2
      have HU := Lib.hid HT
      have H0 := Lib.hid h0
      have H1 := Lib.hid h1
      have H2 := Lib.hid h2
      have H3 := Lib.hid h3
      clear h0 h1 h2 h3 hb1 hb2 ht hb hc hd HT
      obtain ⟨lb1, lb2⟩ := lb
      obtain ⟨lc1, lc2⟩ := lc
      obtain ⟨ld1, ld2⟩ := ld
      have i0 : (0 : Int) ≤ (k : Int) := by omega
      have i0' : (k : Int) < 16 := by omega
      have i1 : (0 : Int) ≤ (b : Int) := by omega
      have i1' : (b : Int) < 16 := by omega
      have i2 : (0 : Int) ≤ (c : Int) := by omega
      have i2' : (c : Int) < 16 := by omega
      have i3 : (0 : Int) ≤ (d : Int) := by omega
      have i3' : (d : Int) < 16 := by omega
      go_wp2
      refine wp_region_any (by kernel_rfl) ?_
      change wpAny _ _ _ _ _ _ _ (World.drew _)
      refine wpAny_take (i := 0) (v := ?v0) rfl (by kernel_rfl) (by kernel_rfl) (by kernel_rfl) (fun _ _ _ h => h) (Or.inl ⟨by rfl, ?y0⟩) ?_
      case y0 => (intro w'; go_simp; try with_reducible rfl)
      refine wpAny_take (i := 1) (v := ?v1) rfl (by kernel_rfl) (by kernel_rfl) (by kernel_rfl) (fun _ _ _ h => h) (Or.inl ⟨by rfl, ?y1⟩) ?_
      case y1 => (intro w'; go_simp; try with_reducible rfl)
      refine wpAny_take (i := 2) (v := ?v2) rfl (by kernel_rfl) (by kernel_rfl) (by kernel_rfl) (fun _ _ _ h => h) (Or.inl ⟨by rfl, ?y2⟩) ?_
      case y2 => (intro w'; go_simp; try with_reducible rfl)
      refine wpAny_take (i := 3) (v := ?v3) rfl (by kernel_rfl) (by kernel_rfl) (by kernel_rfl) (fun _ _ _ h => h) (Or.inl ⟨by rfl, ?y3⟩) ?_
      case y3 => (intro w'; go_simp; try with_reducible rfl)
      refine wpAny_take (i := 4) (v := ?v4) rfl (by kernel_rfl) (by kernel_rfl) (by kernel_rfl) (fun _ _ _ h => h) (Or.inl ⟨by rfl, ?y4⟩) ?_
      case y4 => (intro w'; go_simp; try with_reducible rfl)
      refine wpAny_take (i := 5) (v := ?v5) rfl (by kernel_rfl) (by kernel_rfl) (by kernel_rfl) (fun _ _ _ h => h) (Or.inl ⟨by rfl, ?y5⟩) ?_
      case y5 => (intro w'; go_simp; try with_reducible rfl)
      refine wpAny_take (i := 7) (v := ?v7) rfl (by kernel_rfl) (by kernel_rfl) (by kernel_rfl) (fun _ _ _ h => h) (Or.inl ⟨by rfl, ?y7⟩) ?_
      case y7 => (intro w'; go_simp; try with_reducible rfl)
      refine wpAny_take (i := 8) (v := ?v8) rfl (by kernel_rfl) (by kernel_rfl) (by kernel_rfl) (fun _ _ _ h => h) (Or.inl ⟨by rfl, ?y8⟩) ?_
      case y8 => (intro w'; go_simp; try with_reducible rfl)
      refine wpAny_take (i := 10) (v := ?v10) rfl (by kernel_rfl) (by kernel_rfl) (by kernel_rfl) (fun _ _ _ h => h) (Or.inl ⟨by rfl, ?y10⟩) ?_
      case y10 => (intro w'; go_simp; try with_reducible rfl)
      refine wpAny_take (i := 11) (v := ?v11) rfl (by kernel_rfl) (by kernel_rfl) (by kernel_rfl) (fun _ _ _ h => h) (Or.inl ⟨by rfl, ?y11⟩) ?_
      case y11 => (intro w'; go_simp; try with_reducible rfl)
      refine wpAny_take (i := 13) (v := ?v13) rfl (by kernel_rfl) (by kernel_rfl) (by kernel_rfl) (fun _ _ _ h => h) (Or.inl ⟨by rfl, ?y13⟩) ?_
      case y13 => (intro w'; go_simp; try with_reducible rfl)
      refine wpAny_take (i := 14) (v := ?v14) rfl (by kernel_rfl) (by kernel_rfl) (by kernel_rfl) (fun _ _ _ h => h) (Or.inl ⟨by rfl, ?y14⟩) ?_
      case y14 => (intro w'; go_simp; try with_reducible rfl)
      refine wpAny_look (i := 6) (v := ?v6) rfl (by kernel_rfl) (by kernel_rfl) (by kernel_rfl) (fun _ _ _ h => h) (by rfl) ?y6 ?_
      case y6 => (go_simp; try with_reducible rfl)
      refine wpAny_look (i := 9) (v := ?v9) rfl (by kernel_rfl) (by kernel_rfl) (by kernel_rfl) (fun _ _ _ h => h) (by rfl) ?y9 ?_
      case y9 => (go_simp; try with_reducible rfl)
      refine wpAny_look (i := 12) (v := ?v12) rfl (by kernel_rfl) (by kernel_rfl) (by kernel_rfl) (fun _ _ _ h => h) (by rfl) ?y12 ?_
      case y12 => (go_simp; try with_reducible rfl)
      refine wpAny_look (i := 15) (v := ?v15) rfl (by kernel_rfl) (by kernel_rfl) (by kernel_rfl) (fun _ _ _ h => h) (by rfl) ?y15 ?_
      case y15 => (go_simp; try with_reducible rfl)
      refine wpAny_ready (rs := [16]) (by kernel_rfl) (by simp) (AllReady.cons rfl (fun K hK => ?_) AllReady.nil)
      go_simp
      refine (quarter_any x0 x1 x2 x3 _).mono ?_
      rintro e w1 ⟨rfl, rfl⟩
      go_simp
      refine hK _ _ ?_
      clear hK K
      refine wpAny_take (i := 17) (v := ?v17) rfl (by kernel_rfl) (by kernel_rfl) (by kernel_rfl) (fun _ _ _ h => h) (Or.inl ⟨by rfl, ?y17⟩) ?_
      case y17 => (intro w'; go_simp; try with_reducible rfl)
      refine wpAny_take (i := 18) (v := ?v18) rfl (by kernel_rfl) (by kernel_rfl) (by kernel_rfl) (fun _ _ _ h => h) (Or.inl ⟨by rfl, ?y18⟩) ?_
      case y18 => (intro w'; go_simp; try with_reducible rfl)
      refine wpAny_take (i := 19) (v := ?v19) rfl (by kernel_rfl) (by kernel_rfl) (by kernel_rfl) (fun _ _ _ h => h) (Or.inl ⟨by rfl, ?y19⟩) ?_
      case y19 => (intro w'; go_simp; try with_reducible rfl)
      refine wpAny_take (i := 20) (v := ?v20) rfl (by kernel_rfl) (by kernel_rfl) (by kernel_rfl) (fun _ _ _ h => h) (Or.inl ⟨by rfl, ?y20⟩) ?_
      case y20 => (intro w'; go_simp; try with_reducible rfl)
      refine wpAny_take (i := 21) (v := ?v21) rfl (by kernel_rfl) (by kernel_rfl) (by kernel_rfl) (fun _ _ _ h => h) (Or.inl ⟨by rfl, ?y21⟩) ?_
      case y21 => (intro w'; go_simp; try with_reducible rfl)
      refine wpAny_take (i := 22) (v := ?v22) rfl (by kernel_rfl) (by kernel_rfl) (by kernel_rfl) (fun _ _ _ h => h) (Or.inl ⟨by rfl, ?y22⟩) ?_
      case y22 => (intro w'; go_simp; try with_reducible rfl)
      refine wpAny_ready (rs := [23]) (by kernel_rfl) (by simp) (AllReady.cons rfl (fun K hK => ?_) AllReady.nil)
      go_simp
      refine hK _ _ ?_
      clear hK K
      refine wpAny_take (i := 24) (v := ?v24) rfl (by kernel_rfl) (by kernel_rfl) (by kernel_rfl) (fun _ _ _ h => h) (Or.inl ⟨by rfl, ?y24⟩) ?_
      case y24 => (intro w'; go_simp; try with_reducible rfl)
      refine wpAny_ready (rs := [25]) (by kernel_rfl) (by simp) (AllReady.cons rfl (fun K hK => ?_) AllReady.nil)
      go_simp
      refine hK _ _ ?_
      clear hK K
      refine wpAny_take (i := 26) (v := ?v26) rfl (by kernel_rfl) (by kernel_rfl) (by kernel_rfl) (fun _ _ _ h => h) (Or.inl ⟨by rfl, ?y26⟩) ?_
      case y26 => (intro w'; go_simp; try with_reducible rfl)
      refine wpAny_ready (rs := [27]) (by kernel_rfl) (by simp) (AllReady.cons rfl (fun K hK => ?_) AllReady.nil)
      go_simp
      refine hK _ _ ?_
      clear hK K
      refine wpAny_take (i := 28) (v := ?v28) rfl (by kernel_rfl) (by kernel_rfl) (by kernel_rfl) (fun _ _ _ h => h) (Or.inl ⟨by rfl, ?y28⟩) ?_
      case y28 => (intro w'; go_simp; try with_reducible rfl)
      refine wpAny_ready (rs := [29]) (by kernel_rfl) (by simp) (AllReady.cons rfl (fun K hK => ?_) AllReady.nil)
      go_simp
      refine hK _ _ ?_
      clear hK K
      refine wpAny_done (by kernel_rfl) ?_ _
      go_wp2
      go_roundw
      case rel => exact ⟨k + 1, qs u k b c d, by omega, by go_num, ⟨by rw [qs_length, Ht.out], by rw [colsTo, ← HU.out, HB.out, HC.out, HD.out], by rw [heap_drew, heap_set4 HH.out, H0.out, H1.out, H2.out, H3.out]; rfl, by rw [heap_drew, heap_other4 (by omega)]; exact HH2.out, by exact (below_set4 hbel _ _ _ _ _ _ _ _).drew⟩⟩
      case measure => simp [intOf]; omega
    · obtain rfl : k = 4 := by omega
      obtain ⟨ht, HT, hb1, hb2, hbel⟩ := hcol
      have hi : (Try.prog.info? 64).map (·.size) = some (uv u).size := by rw [uv_size, ht]; exact info30
      have Hi := Lib.hid hi
      have H1 := Lib.hid hb1
      have H2 := Lib.hid hb2
      have Ht := Lib.hid ht
      have HU := Lib.hid HT
      clear hi hb1 hb2 ht HT
      go_wp2_with (first
        | (refine wpList_load_row rfl 64 (.tmp 1) rfl w.heap.size rfl 64 (uv u) (0, 0) _ H1.out Try.underlying64 rfl Hi.out ?_)
        | (refine wpList_store_row rfl 64 (.tmp 2) (.tmp 49) rfl (w.heap.size + 1) (uv u) rfl rfl 64 (uv (List.replicate 16 0)) H2.out Hi.out (by rw [uv_size, uv_size, Ht.out]; rfl) (uv_one u) ?_))
      exact bodyPost_ret (v := .agg (uv u)) (results_cell_row Try.results47 _ _ (w.heap.size + 1) 64 (uv u) (0, 0) _ rfl (setRow_heap _ _ _ _ _ _ H2.out) Try.underlying64 rfl Hi.out) rfl ⟨by rw [HU.out], below_setRow hbel (by omega) _⟩
set_option maxHeartbeats 400000 in
theorem columns_any (s : List UInt32) (hs : s.length = 16) (w : World) :
    Calls Try.prog 48 #[.agg (uv s)] w (RetB (.agg (uv (colsTo 0 s 4))) w) := by
  go_enter Try.func48, Try.ntmps48
  go_wp2
  go_loopw [4] (fun i wr => ∃ k : Nat, ∃ u : List UInt32, k ≤ 4 ∧ i = .int .i64 k ∧ Cols w wr 0 s k u 64) (fun i _ => 4 - (intOf i).toNat)
  case atStart => exact ⟨0, s, by omega, rfl, hs, rfl, heap_alloc2_old _ _ _, heap_alloc2_new _ _ _, ((Below.refl _ _).alloc (Nat.le_refl _) _).alloc (by simp) _⟩
  case round =>
    obtain ⟨k, u, hk, rfl, hcol⟩ := hrel
    by_cases hlt : k < 4
    · obtain ⟨b, hb⟩ : ∃ b : Nat, b = 4 + (k + 0) % 4 := ⟨_, rfl⟩
      obtain ⟨c, hc⟩ : ∃ c : Nat, c = 8 + (k + 0) % 4 := ⟨_, rfl⟩
      obtain ⟨d, hd⟩ : ∃ d : Nat, d = 12 + (k + 0) % 4 := ⟨_, rfl⟩
      have eb : 4 + (k : Int) = (b : Int) := by omega
      have ec : 8 + (k : Int) = (c : Int) := by omega
      have ed : 12 + (k : Int) = (d : Int) := by omega
      have wb : IntKind.i64.wrap (b : Int) = (b : Int) := IntWalk.i64_in _ (by omega)
      have wc : IntKind.i64.wrap (c : Int) = (c : Int) := IntWalk.i64_in _ (by omega)
      have wd : IntKind.i64.wrap (d : Int) = (d : Int) := IntWalk.i64_in _ (by omega)
      have lb : 4 ≤ b ∧ b < 8 := by omega
      have lc : 8 ≤ c ∧ c < 12 := by omega
      have ld : 12 ≤ d ∧ d < 16 := by omega
      have HB := Lib.hid hb
      have HC := Lib.hid hc
      have HD := Lib.hid hd
      obtain ⟨ht, HT, hb1, hb2, hbel⟩ := hcol
      have hf : ∀ j, wr.frozen? ⟨w.heap.size, j, none⟩ = false := fun j => frozen_of_row wr _ j _ _ hb1
      obtain ⟨x0, h0⟩ : ∃ x, x = u.getD k 0 := ⟨_, rfl⟩
      have c0 : wr.cell? ⟨w.heap.size, k, none⟩ = some (.int .u32 (x0.toNat : Int)) := by rw [cell_of_row wr _ _ _ _ _ hb1, uv_get (by omega), h0]
      obtain ⟨x1, h1⟩ : ∃ x, x = u.getD b 0 := ⟨_, rfl⟩
      have c1 : wr.cell? ⟨w.heap.size, b, none⟩ = some (.int .u32 (x1.toNat : Int)) := by rw [cell_of_row wr _ _ _ _ _ hb1, uv_get (by omega), h1]
      obtain ⟨x2, h2⟩ : ∃ x, x = u.getD c 0 := ⟨_, rfl⟩
      have c2 : wr.cell? ⟨w.heap.size, c, none⟩ = some (.int .u32 (x2.toNat : Int)) := by rw [cell_of_row wr _ _ _ _ _ hb1, uv_get (by omega), h2]
      obtain ⟨x3, h3⟩ : ∃ x, x = u.getD d 0 := ⟨_, rfl⟩
      have c3 : wr.cell? ⟨w.heap.size, d, none⟩ = some (.int .u32 (x3.toNat : Int)) := by rw [cell_of_row wr _ _ _ _ _ hb1, uv_get (by omega), h3]
      have Ht := Lib.hid ht
      have HH := Lib.hid hb1
      have HH2 := Lib.hid hb2
      have HU := Lib.hid HT
      have H0 := Lib.hid h0
      have H1 := Lib.hid h1
      have H2 := Lib.hid h2
      have H3 := Lib.hid h3
      clear h0 h1 h2 h3 hb1 hb2 ht hb hc hd HT
      obtain ⟨lb1, lb2⟩ := lb
      obtain ⟨lc1, lc2⟩ := lc
      obtain ⟨ld1, ld2⟩ := ld
      have i0 : (0 : Int) ≤ (k : Int) := by omega
      have i0' : (k : Int) < 16 := by omega
      have i1 : (0 : Int) ≤ (b : Int) := by omega
      have i1' : (b : Int) < 16 := by omega
      have i2 : (0 : Int) ≤ (c : Int) := by omega
      have i2' : (c : Int) < 16 := by omega
      have i3 : (0 : Int) ≤ (d : Int) := by omega
      have i3' : (d : Int) < 16 := by omega
      go_wp2
      refine wp_region_any (by kernel_rfl) ?_
      change wpAny _ _ _ _ _ _ _ (World.drew _)
      refine wpAny_take (i := 0) (v := ?v0) rfl (by kernel_rfl) (by kernel_rfl) (by kernel_rfl) (fun _ _ _ h => h) (Or.inl ⟨by rfl, ?y0⟩) ?_
      case y0 => (intro w'; go_simp; try with_reducible rfl)
      refine wpAny_take (i := 1) (v := ?v1) rfl (by kernel_rfl) (by kernel_rfl) (by kernel_rfl) (fun _ _ _ h => h) (Or.inl ⟨by rfl, ?y1⟩) ?_
      case y1 => (intro w'; go_simp; try with_reducible rfl)
      refine wpAny_take (i := 2) (v := ?v2) rfl (by kernel_rfl) (by kernel_rfl) (by kernel_rfl) (fun _ _ _ h => h) (Or.inl ⟨by rfl, ?y2⟩) ?_
      case y2 => (intro w'; go_simp; try with_reducible rfl)
      refine wpAny_take (i := 3) (v := ?v3) rfl (by kernel_rfl) (by kernel_rfl) (by kernel_rfl) (fun _ _ _ h => h) (Or.inl ⟨by rfl, ?y3⟩) ?_
      case y3 => (intro w'; go_simp; try with_reducible rfl)
      refine wpAny_take (i := 4) (v := ?v4) rfl (by kernel_rfl) (by kernel_rfl) (by kernel_rfl) (fun _ _ _ h => h) (Or.inl ⟨by rfl, ?y4⟩) ?_
      case y4 => (intro w'; go_simp; try with_reducible rfl)
      refine wpAny_take (i := 5) (v := ?v5) rfl (by kernel_rfl) (by kernel_rfl) (by kernel_rfl) (fun _ _ _ h => h) (Or.inl ⟨by rfl, ?y5⟩) ?_
      case y5 => (intro w'; go_simp; try with_reducible rfl)
      refine wpAny_take (i := 6) (v := ?v6) rfl (by kernel_rfl) (by kernel_rfl) (by kernel_rfl) (fun _ _ _ h => h) (Or.inl ⟨by rfl, ?y6⟩) ?_
      case y6 => (intro w'; go_simp; try with_reducible rfl)
      refine wpAny_take (i := 7) (v := ?v7) rfl (by kernel_rfl) (by kernel_rfl) (by kernel_rfl) (fun _ _ _ h => h) (Or.inl ⟨by rfl, ?y7⟩) ?_
      case y7 => (intro w'; go_simp; try with_reducible rfl)
      refine wpAny_take (i := 8) (v := ?v8) rfl (by kernel_rfl) (by kernel_rfl) (by kernel_rfl) (fun _ _ _ h => h) (Or.inl ⟨by rfl, ?y8⟩) ?_
      case y8 => (intro w'; go_simp; try with_reducible rfl)
      refine wpAny_take (i := 10) (v := ?v10) rfl (by kernel_rfl) (by kernel_rfl) (by kernel_rfl) (fun _ _ _ h => h) (Or.inl ⟨by rfl, ?y10⟩) ?_
      case y10 => (intro w'; go_simp; try with_reducible rfl)
      refine wpAny_take (i := 11) (v := ?v11) rfl (by kernel_rfl) (by kernel_rfl) (by kernel_rfl) (fun _ _ _ h => h) (Or.inl ⟨by rfl, ?y11⟩) ?_
      case y11 => (intro w'; go_simp; try with_reducible rfl)
      refine wpAny_take (i := 12) (v := ?v12) rfl (by kernel_rfl) (by kernel_rfl) (by kernel_rfl) (fun _ _ _ h => h) (Or.inl ⟨by rfl, ?y12⟩) ?_
      case y12 => (intro w'; go_simp; try with_reducible rfl)
      refine wpAny_take (i := 14) (v := ?v14) rfl (by kernel_rfl) (by kernel_rfl) (by kernel_rfl) (fun _ _ _ h => h) (Or.inl ⟨by rfl, ?y14⟩) ?_
      case y14 => (intro w'; go_simp; try with_reducible rfl)
      refine wpAny_take (i := 15) (v := ?v15) rfl (by kernel_rfl) (by kernel_rfl) (by kernel_rfl) (fun _ _ _ h => h) (Or.inl ⟨by rfl, ?y15⟩) ?_
      case y15 => (intro w'; go_simp; try with_reducible rfl)
      refine wpAny_take (i := 16) (v := ?v16) rfl (by kernel_rfl) (by kernel_rfl) (by kernel_rfl) (fun _ _ _ h => h) (Or.inl ⟨by rfl, ?y16⟩) ?_
      case y16 => (intro w'; go_simp; try with_reducible rfl)
      refine wpAny_take (i := 18) (v := ?v18) rfl (by kernel_rfl) (by kernel_rfl) (by kernel_rfl) (fun _ _ _ h => h) (Or.inl ⟨by rfl, ?y18⟩) ?_
      case y18 => (intro w'; go_simp; try with_reducible rfl)
      refine wpAny_take (i := 19) (v := ?v19) rfl (by kernel_rfl) (by kernel_rfl) (by kernel_rfl) (fun _ _ _ h => h) (Or.inl ⟨by rfl, ?y19⟩) ?_
      case y19 => (intro w'; go_simp; try with_reducible rfl)
      refine wpAny_take (i := 20) (v := ?v20) rfl (by kernel_rfl) (by kernel_rfl) (by kernel_rfl) (fun _ _ _ h => h) (Or.inl ⟨by rfl, ?y20⟩) ?_
      case y20 => (intro w'; go_simp; try with_reducible rfl)
      refine wpAny_look (i := 9) (v := ?v9) rfl (by kernel_rfl) (by kernel_rfl) (by kernel_rfl) (fun _ _ _ h => h) (by rfl) ?y9 ?_
      case y9 => (go_simp; try with_reducible rfl)
      refine wpAny_look (i := 13) (v := ?v13) rfl (by kernel_rfl) (by kernel_rfl) (by kernel_rfl) (fun _ _ _ h => h) (by rfl) ?y13 ?_
      case y13 => (go_simp; try with_reducible rfl)
      refine wpAny_look (i := 17) (v := ?v17) rfl (by kernel_rfl) (by kernel_rfl) (by kernel_rfl) (fun _ _ _ h => h) (by rfl) ?y17 ?_
      case y17 => (go_simp; try with_reducible rfl)
      refine wpAny_look (i := 21) (v := ?v21) rfl (by kernel_rfl) (by kernel_rfl) (by kernel_rfl) (fun _ _ _ h => h) (by rfl) ?y21 ?_
      case y21 => (go_simp; try with_reducible rfl)
      refine wpAny_ready (rs := [22]) (by kernel_rfl) (by simp) (AllReady.cons rfl (fun K hK => ?_) AllReady.nil)
      go_simp
      refine (quarter_any x0 x1 x2 x3 _).mono ?_
      rintro e w1 ⟨rfl, rfl⟩
      go_simp
      refine hK _ _ ?_
      clear hK K
      refine wpAny_take (i := 23) (v := ?v23) rfl (by kernel_rfl) (by kernel_rfl) (by kernel_rfl) (fun _ _ _ h => h) (Or.inl ⟨by rfl, ?y23⟩) ?_
      case y23 => (intro w'; go_simp; try with_reducible rfl)
      refine wpAny_take (i := 24) (v := ?v24) rfl (by kernel_rfl) (by kernel_rfl) (by kernel_rfl) (fun _ _ _ h => h) (Or.inl ⟨by rfl, ?y24⟩) ?_
      case y24 => (intro w'; go_simp; try with_reducible rfl)
      refine wpAny_take (i := 25) (v := ?v25) rfl (by kernel_rfl) (by kernel_rfl) (by kernel_rfl) (fun _ _ _ h => h) (Or.inl ⟨by rfl, ?y25⟩) ?_
      case y25 => (intro w'; go_simp; try with_reducible rfl)
      refine wpAny_take (i := 26) (v := ?v26) rfl (by kernel_rfl) (by kernel_rfl) (by kernel_rfl) (fun _ _ _ h => h) (Or.inl ⟨by rfl, ?y26⟩) ?_
      case y26 => (intro w'; go_simp; try with_reducible rfl)
      refine wpAny_take (i := 27) (v := ?v27) rfl (by kernel_rfl) (by kernel_rfl) (by kernel_rfl) (fun _ _ _ h => h) (Or.inl ⟨by rfl, ?y27⟩) ?_
      case y27 => (intro w'; go_simp; try with_reducible rfl)
      refine wpAny_take (i := 28) (v := ?v28) rfl (by kernel_rfl) (by kernel_rfl) (by kernel_rfl) (fun _ _ _ h => h) (Or.inl ⟨by rfl, ?y28⟩) ?_
      case y28 => (intro w'; go_simp; try with_reducible rfl)
      refine wpAny_ready (rs := [29]) (by kernel_rfl) (by simp) (AllReady.cons rfl (fun K hK => ?_) AllReady.nil)
      go_simp
      refine hK _ _ ?_
      clear hK K
      refine wpAny_take (i := 30) (v := ?v30) rfl (by kernel_rfl) (by kernel_rfl) (by kernel_rfl) (fun _ _ _ h => h) (Or.inl ⟨by rfl, ?y30⟩) ?_
      case y30 => (intro w'; go_simp; try with_reducible rfl)
      refine wpAny_ready (rs := [31]) (by kernel_rfl) (by simp) (AllReady.cons rfl (fun K hK => ?_) AllReady.nil)
      go_simp
      refine hK _ _ ?_
      clear hK K
      refine wpAny_take (i := 32) (v := ?v32) rfl (by kernel_rfl) (by kernel_rfl) (by kernel_rfl) (fun _ _ _ h => h) (Or.inl ⟨by rfl, ?y32⟩) ?_
      case y32 => (intro w'; go_simp; try with_reducible rfl)
      refine wpAny_ready (rs := [33]) (by kernel_rfl) (by simp) (AllReady.cons rfl (fun K hK => ?_) AllReady.nil)
      go_simp
      refine hK _ _ ?_
      clear hK K
      refine wpAny_take (i := 34) (v := ?v34) rfl (by kernel_rfl) (by kernel_rfl) (by kernel_rfl) (fun _ _ _ h => h) (Or.inl ⟨by rfl, ?y34⟩) ?_
      case y34 => (intro w'; go_simp; try with_reducible rfl)
      refine wpAny_ready (rs := [35]) (by kernel_rfl) (by simp) (AllReady.cons rfl (fun K hK => ?_) AllReady.nil)
      go_simp
      refine hK _ _ ?_
      clear hK K
      refine wpAny_done (by kernel_rfl) ?_ _
      go_wp2
      go_roundw
      case rel => exact ⟨k + 1, qs u k b c d, by omega, by go_num, ⟨by rw [qs_length, Ht.out], by rw [colsTo, ← HU.out, HB.out, HC.out, HD.out], by rw [heap_drew, heap_set4 HH.out, H0.out, H1.out, H2.out, H3.out]; rfl, by rw [heap_drew, heap_other4 (by omega)]; exact HH2.out, by exact (below_set4 hbel _ _ _ _ _ _ _ _).drew⟩⟩
      case measure => simp [intOf]; omega
    · obtain rfl : k = 4 := by omega
      obtain ⟨ht, HT, hb1, hb2, hbel⟩ := hcol
      have hi : (Try.prog.info? 64).map (·.size) = some (uv u).size := by rw [uv_size, ht]; exact info30
      have Hi := Lib.hid hi
      have H1 := Lib.hid hb1
      have H2 := Lib.hid hb2
      have Ht := Lib.hid ht
      have HU := Lib.hid HT
      clear hi hb1 hb2 ht HT
      go_wp2_with (first
        | (refine wpList_load_row rfl 64 (.tmp 1) rfl w.heap.size rfl 64 (uv u) (0, 0) _ H1.out Try.underlying64 rfl Hi.out ?_)
        | (refine wpList_store_row rfl 64 (.tmp 2) (.tmp 40) rfl (w.heap.size + 1) (uv u) rfl rfl 64 (uv (List.replicate 16 0)) H2.out Hi.out (by rw [uv_size, uv_size, Ht.out]; rfl) (uv_one u) ?_))
      exact bodyPost_ret (v := .agg (uv u)) (results_cell_row Try.results48 _ _ (w.heap.size + 1) 64 (uv u) (0, 0) _ rfl (setRow_heap _ _ _ _ _ _ H2.out) Try.underlying64 rfl Hi.out) rfl ⟨by rw [HU.out], below_setRow hbel (by omega) _⟩
end Go.Proofs.Ytobkkbpeoohfkaa
