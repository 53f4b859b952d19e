/-
  The contracts of the real cipher's Pad and Split.
-/
import Derived.Test.YtobkkbpeoohfkaaChBlock
import Derived.Test.YtobkkbpeoohfkaaShMid
import Derived.Test.YtobkkbpeoohfkaaShPad
import Derived.Test.YtobkkbpeoohfkaaCiLit
namespace Go.Proofs.Ytobkkbpeoohfkaa.Ci
open Go.RowKit
attribute [local go_sem ↓] Go.wp_at_zero Go.wp_at_succ
/-- The real cipher's pad. -/
def rpadL (k : List UInt8) (n : Nat) : List UInt8 := (blockL k 0 n).take 32
theorem rpadL_length (k : List UInt8) (n : Nat) : (rpadL k n).length = 32 := by rw [rpadL, List.length_take, blockL_length]; rfl
theorem info_64 : (Try.prog.info? 52).map (·.size) = some 64 := by kernel_rfl
set_option maxRecDepth 100000 in
set_option maxHeartbeats 1600000 in
theorem realpad_any (key : List UInt8) (hk : key.length = 32) (n : Nat) (w : World) :
    Calls Try.prog 13 #[.agg #[], .agg (bva key), .int .u64 (n : Int)] w (RetB (.agg (bva (rpadL key n))) w) := by
  obtain ⟨z, hz0⟩ : ∃ z : List UInt8, z = List.replicate 32 0 := ⟨_, rfl⟩
  obtain ⟨y, hy0⟩ : ∃ y : List UInt8, y = List.replicate 64 0 := ⟨_, rfl⟩
  obtain ⟨b1, b2, b3, hb⟩ := three_blocks w (.cells #[] 27) (.cells (bva key) 23) (.cells (bva z) 30)
  have hz : ∀ W, (zeroValue 30).run Try.prog W = .ok (.agg (bva z)) W := fun _ => by rw [hz0]; kernel_rfl
  have hy : ∀ W, (zeroValue 52).run Try.prog W = .ok (.agg (bva y)) W := fun _ => by rw [hy0]; kernel_rfl
  have Z3 : Hid (z.length = 32) := by show _ = _; rw [hz0]; rfl
  have Y3 : Hid (y.length = 64) := by show _ = _; rw [hy0]; rfl
  obtain ⟨L, hL⟩ : ∃ L, L = blockL key 0 n := ⟨_, rfl⟩
  have HL3 : Hid (L.length = 64) := by show _ = _; rw [hL, blockL_length]
  have HL : Hid ((Try.prog.info? 52).map (·.size) = some (bva L).size) := by rw [bva_size, HL3.out]; exact info_64
  have HLL := Lib.hid hL
  obtain ⟨p, hp⟩ : ∃ p, p = L.take 32 := ⟨_, rfl⟩
  have HP3 : Hid (p.length = 32) := by show _ = _; rw [hp, List.length_take, HL3.out]; rfl
  have HP : Hid ((Try.prog.info? 30).map (·.size) = some (bva p).size) := by rw [bva_size, HP3.out]; exact info_blk
  have HPP := Lib.hid hp
  have B2 := Lib.hid (show Blk _ _ _ _ from b2)
  have B3 := Lib.hid (show Blk _ _ _ _ from b3)
  have BB := Lib.hid hb
  have HK := Lib.hid hk
  have HI : Hid ((Try.prog.info? 23).map (·.size) = some (bva key).size) := by rw [bva_size, hk]; exact info_key
  clear hz0 hy0 b1 b2 b3 hb hk hL hp
  go_enter Try.func13, Try.ntmps13
  go_wp2_with (refine wpList_load_row rfl 23 (.tmp 4) rfl (w.heap.size + 1) rfl 23 (bva key) (0, 0) _ ?hg Try.underlying23 rfl HI.out ?_; case hg => exact B2.out)
  refine (block_any key HK.out 0 n _).mono ?_
  rintro e w1 ⟨rfl, bw⟩
  rw [← HLL.out]
  have C3 := Lib.hid (B3.out.below bw)
  have CB := Lib.hid (BB.out.trans (bw.mono BB.out.size))
  have hw1 : w.heap.size + 1 + 1 < w1.heap.size := by have h1 := C3.out.lt; omega
  clear bw B2 B3 BB
  go_wp2_with (refine wpList_store_row rfl 52 (.tmp 7) (.tmp 11) rfl w1.heap.size (bva L) rfl rfl 52 (bva y) (heap_alloc_new _ _) HL.out (by simp only [bva_size, HL3.out, Y3.out]) (bva_one _) ?_
               generalize hw2 : World.setRow _ _ _ = w2
               have d3 : Blk w2 (w.heap.size + 1 + 1) (bva z) 30 := by rw [← hw2]; exact blk_past C3.out
               have d4 : Blk w2 w1.heap.size (bva L) 52 := by rw [← hw2]; exact blk_new _
               have db : Below w.heap.size w w2 := by rw [← hw2]; exact below_new CB.out CB.out.size
               have d5 : w1.heap.size < w2.heap.size := d4.lt
               have D3 := Lib.hid d3
               have D4 := Lib.hid d4
               have DB := Lib.hid db
               clear d3 d4 db hw2 C3 CB)
  have q3 : Blk (w2.alloc (.cells (bva z) 30)) (w.heap.size + 1 + 1) (bva z) 30 := (heap_alloc_old _ _ (by omega)).trans D3.out
  have q4 : Blk (w2.alloc (.cells (bva z) 30)) w1.heap.size (bva L) 52 := (heap_alloc_old _ _ d5).trans D4.out
  have q5 : Blk (w2.alloc (.cells (bva z) 30)) w2.heap.size (bva z) 30 := heap_alloc_new _ _
  have qb : Below w.heap.size w (w2.alloc (.cells (bva z) 30)) := DB.out.alloc DB.out.size _
  generalize hw3 : w2.alloc _ = w3
  rw [hw3] at q3 q4 q5 qb
  have Q3 := Lib.hid q3
  have Q4 := Lib.hid q4
  have Q5 := Lib.hid q5
  have QB := Lib.hid qb
  clear q3 q4 q5 qb hw3 D3 D4 DB hz hy
  refine wp_region_any (by kernel_rfl) ?_
  change wpAny _ _ _ _ _ _ _ (World.drew _)
  refine wpAny_take (i := 0) (v := ?v0) rfl (by kernel_rfl) (by kernel_rfl) (by kernel_rfl) (fun _ _ _ h => h) (Or.inl ⟨by rfl, ?y0⟩) ?_
  case y0 => (intro w'; go_simp; try with_reducible rfl)
  refine wpAny_take (i := 1) (v := ?v1) rfl (by kernel_rfl) (by kernel_rfl) (by kernel_rfl) (fun _ _ _ h => h) (Or.inl ⟨by rfl, ?y1⟩) ?_
  case y1 => (intro w'; go_simp; try with_reducible rfl)
  refine wpAny_ready (rs := [2]) (by kernel_rfl) (by simp) (AllReady.cons rfl (fun K hK => ?_) AllReady.nil)
  refine step_copy_set rfl (.tmp 12) (.tmp 13) 33 33 rfl 5 Try.underlying33 info5 ⟨w1.heap.size, 0, none⟩ w2.heap.size 0 32 32 64 64 rfl rfl (bv z) 30 ?c3 (bv p) ?c1 ?c4 ?c2 (bv_one _) 32 (by rw [bv_length, HP3.out]) ?_
  case c3 => exact Q5.out
  case c4 => exact fun j v hv => by rw [add_head]; rw [HPP.out] at hv; exact (Q4.out.cell j).trans (by rw [bva, List.getElem?_toArray]; exact bv_take_get hv)
  case c1 => rw [bv_length, HP3.out]; rfl
  case c2 => rw [bv_length, bv_length, HP3.out, Z3.out]; omega
  generalize hw4 : World.setRow _ _ _ = w4
  have r5 : Blk w4 w2.heap.size (bva p) 30 := by
    rw [← hw4, splice_whole _ _ (by rw [bv_length, bv_length, HP3.out, Z3.out])]; exact setRow_heap _ _ _ _ _ _ Q5.out
  have r3 : Blk w4 (w.heap.size + 1 + 1) (bva z) 30 := by rw [← hw4]; unfold Blk; rw [setRow_other _ _ _ _ (by omega)]; exact Q3.out
  have rb : Below w.heap.size w w4 := by rw [← hw4]; exact below_setRow QB.out.drew (by omega) _
  have R5 := Lib.hid r5
  have R3 := Lib.hid r3
  have RB := Lib.hid rb
  clear r5 r3 rb hw4 Q3 Q4 Q5 QB
  refine hK _ _ ?_
  clear hK K
  refine wpAny_done (by kernel_rfl) ?_ _
  go_wp2_with (first
    | (refine wpList_load_row rfl 30 (.tmp 8) rfl w2.heap.size rfl 30 (bva p) (0, 0) _ R5.out Try.underlying30 rfl HP.out ?_)
    | (refine wpList_store_row rfl 30 (.tmp 6) (.tmp 15) rfl (w.heap.size + 1 + 1) (bva p) rfl rfl 30 (bva z) R3.out HP.out (by simp only [bva_size, HP3.out, Z3.out]) (bva_one _) ?_))
  exact bodyPost_ret (v := .agg (bva p)) (results_cell_row Try.results13 _ _ (w.heap.size + 1 + 1) 30 (bva p) (0, 0) _ rfl (setRow_heap _ _ _ _ _ _ R3.out) Try.underlying30 rfl HP.out) rfl ⟨by rw [rpadL, HPP.out, HLL.out], below_setRow RB.out (by omega) _⟩
/-- Two arrays are told. -/
theorem results_cells2 {P : Program} {fn : Func} {p q : Tmp} {ty : TypeId} (h : fn.results = #[.cell p ty, .cell q ty]) (tmps : Array Value) (w : World) (g g' : Nat) (t t' : TypeId) (cs cs' : Array Value) (d : TypeDesc)
    (hp : tmps.getD p undef = .pointer (some ⟨g, 0, none⟩)) (hq : tmps.getD q undef = .pointer (some ⟨g', 0, none⟩)) (hg : Blk w g cs t) (hg' : Blk w g' cs' t')
    (hu : P.underlying ty = some d) (hd : (match d with | .struct _ | .array _ _ => true | _ => false) = true) (hi : (P.info? ty).map (·.size) = some cs.size) (hi' : (P.info? ty).map (·.size) = some cs'.size) :
    (results fn tmps).run P w = .ok (.tuple #[.agg cs, .agg cs']) w := by
  have hp' : tmps[p]?.getD undef = .pointer (some ⟨g, 0, none⟩) := by simpa using hp
  have hq' : tmps[q]?.getD undef = .pointer (some ⟨g', 0, none⟩) := by simpa using hq
  simp [results, h, hp', hq', asAddr, run_loadVar_row w g t ty cs (0, 0) d hg hu hd hi, run_loadVar_row w g' t' ty cs' (0, 0) d hg' hu hd hi']
theorem four_blocks (w : World) (A B C D : Obj) : ((((w.alloc A).alloc B).alloc C).alloc D).heap[w.heap.size]? = some A ∧ ((((w.alloc A).alloc B).alloc C).alloc D).heap[w.heap.size + 1]? = some B ∧ ((((w.alloc A).alloc B).alloc C).alloc D).heap[w.heap.size + 1 + 1]? = some C ∧ ((((w.alloc A).alloc B).alloc C).alloc D).heap[w.heap.size + 1 + 1 + 1]? = some D ∧ Below w.heap.size w ((((w.alloc A).alloc B).alloc C).alloc D) := by
  obtain ⟨h1, h2, h3, hb⟩ := three_blocks w A B C
  have hs : (((w.alloc A).alloc B).alloc C).heap.size = w.heap.size + 1 + 1 + 1 := by simp
  refine ⟨?_, ?_, ?_, ?_, hb.alloc (by rw [hs]; omega) _⟩
  · rw [heap_alloc_old _ _ (by rw [hs]; omega)]; exact h1
  · rw [heap_alloc_old _ _ (by rw [hs]; omega)]; exact h2
  · rw [heap_alloc_old _ _ (by rw [hs]; omega)]; exact h3
  · rw [← hs]; exact heap_alloc_new _ _
theorem blk_old1 {w : World} {g : Nat} {cs : Array Value} {t : TypeId} {A : Obj} (h : Blk w g cs t) : Blk (w.alloc A) g cs t := (heap_alloc_old _ _ h.lt).trans h
theorem blk_old2 {w : World} {g : Nat} {cs : Array Value} {t : TypeId} {A B : Obj} (h : Blk w g cs t) : Blk ((w.alloc A).alloc B) g cs t := blk_old1 (blk_old1 h)
theorem blk_row {w : World} {g g' : Nat} {cs cs' : Array Value} {t : TypeId} (h : Blk w g cs t) (hg : g ≠ g') : Blk (w.setRow g' cs') g cs t := by unfold Blk; rw [setRow_other _ _ _ _ hg]; exact h
theorem below_alloc2 {B : Nat} {w w' : World} {X Y : Obj} (h : Below B w w') (hB : B ≤ w'.heap.size) : Below B w ((w'.alloc X).alloc Y) := (h.alloc hB _).alloc (by simp; omega) _
/-- A key's two. -/
def leftL (k : List UInt8) : List UInt8 := (blockL k 1 0).take 32
def rightL (k : List UInt8) : List UInt8 := (blockL k 1 0).drop 32
theorem leftL_length (k : List UInt8) : (leftL k).length = 32 := by rw [leftL, List.length_take, blockL_length]; rfl
theorem rightL_length (k : List UInt8) : (rightL k).length = 32 := by rw [rightL, List.length_drop, blockL_length]
theorem bv_drop_get {b : List UInt8} {m j : Nat} {v : Value} (h : (bv (b.drop m))[j]? = some v) : (bv b)[m + j]? = some v := by
  rw [bv_drop, List.getElem?_drop] at h
  exact h
set_option maxRecDepth 100000 in
set_option maxHeartbeats 1600000 in
theorem realsplit_any (key : List UInt8) (hk : key.length = 32) (w : World) :
    Calls Try.prog 11 #[.agg #[], .agg (bva key)] w (RetB (.tuple #[.agg (bva (leftL key)), .agg (bva (rightL key))]) w) := by
  obtain ⟨z, hz0⟩ : ∃ z : List UInt8, z = List.replicate 32 0 := ⟨_, rfl⟩
  obtain ⟨y, hy0⟩ : ∃ y : List UInt8, y = List.replicate 64 0 := ⟨_, rfl⟩
  obtain ⟨b1, b2, b3, b4, hb⟩ := four_blocks w (.cells #[] 27) (.cells (bva key) 23) (.cells (bva z) 23) (.cells (bva z) 23)
  have hz : ∀ W, (zeroValue 23).run Try.prog W = .ok (.agg (bva z)) W := fun _ => by rw [hz0]; kernel_rfl
  have hy : ∀ W, (zeroValue 52).run Try.prog W = .ok (.agg (bva y)) W := fun _ => by rw [hy0]; kernel_rfl
  have Z3 : Hid (z.length = 32) := by show _ = _; rw [hz0]; rfl
  have Y3 : Hid (y.length = 64) := by show _ = _; rw [hy0]; rfl
  obtain ⟨L, hL⟩ : ∃ L, L = blockL key 1 0 := ⟨_, rfl⟩
  have HL3 : Hid (L.length = 64) := by show _ = _; rw [hL, blockL_length]
  have HL : Hid ((Try.prog.info? 52).map (·.size) = some (bva L).size) := by rw [bva_size, HL3.out]; exact info_64
  have HLL := Lib.hid hL
  obtain ⟨p, hp⟩ : ∃ p, p = L.take 32 := ⟨_, rfl⟩
  have HP3 : Hid (p.length = 32) := by show _ = _; rw [hp, List.length_take, HL3.out]; rfl
  have HP : Hid ((Try.prog.info? 23).map (·.size) = some (bva p).size) := by rw [bva_size, HP3.out]; exact info_key
  have HPP := Lib.hid hp
  obtain ⟨q, hq⟩ : ∃ q, q = L.drop 32 := ⟨_, rfl⟩
  have HQ3 : Hid (q.length = 32) := by show _ = _; rw [hq, List.length_drop, HL3.out]
  have HQ : Hid ((Try.prog.info? 23).map (·.size) = some (bva q).size) := by rw [bva_size, HQ3.out]; exact info_key
  have HQQ := Lib.hid hq
  have B2 := Lib.hid (show Blk _ _ _ _ from b2)
  have B3 := Lib.hid (show Blk _ _ _ _ from b3)
  have B4 := Lib.hid (show Blk _ _ _ _ from b4)
  have BB := Lib.hid hb
  have HK := Lib.hid hk
  have HI : Hid ((Try.prog.info? 23).map (·.size) = some (bva key).size) := by rw [bva_size, hk]; exact info_key
  clear hz0 hy0 b1 b2 b3 b4 hb hk hL hp hq
  go_enter Try.func11, Try.ntmps11
  go_wp2_with (refine wpList_load_row rfl 23 (.tmp 3) rfl (w.heap.size + 1) rfl 23 (bva key) (0, 0) _ ?hg Try.underlying23 rfl HI.out ?_; case hg => exact B2.out)
  refine (block_any key HK.out 1 0 _).mono ?_
  rintro e w1 ⟨rfl, bw⟩
  rw [← HLL.out]
  have C3 := Lib.hid (B3.out.below bw)
  have C4 := Lib.hid (B4.out.below bw)
  have CB := Lib.hid (BB.out.trans (bw.mono BB.out.size))
  have hw1 : w.heap.size + 1 + 1 + 1 < w1.heap.size := by have h1 := C4.out.lt; omega
  clear bw B2 B3 B4 BB
  go_wp2_with (refine wpList_store_row rfl 52 (.tmp 6) (.tmp 9) rfl w1.heap.size (bva L) rfl rfl 52 (bva y) (heap_alloc_new _ _) HL.out (by simp only [bva_size, HL3.out, Y3.out]) (bva_one _) ?_
               generalize hw2 : World.setRow _ _ _ = w2
               have d3 : Blk w2 (w.heap.size + 1 + 1) (bva z) 23 := by rw [← hw2]; exact blk_past C3.out
               have d4 : Blk w2 (w.heap.size + 1 + 1 + 1) (bva z) 23 := by rw [← hw2]; exact blk_past C4.out
               have d5 : Blk w2 w1.heap.size (bva L) 52 := by rw [← hw2]; exact blk_new _
               have db : Below w.heap.size w w2 := by rw [← hw2]; exact below_new CB.out CB.out.size
               have D3 := Lib.hid d3
               have D4 := Lib.hid d4
               have D5 := Lib.hid d5
               have DB := Lib.hid db
               clear d3 d4 d5 db hw2 C3 C4 CB)
  refine wp_region_any (by kernel_rfl) ?_
  change wpAny _ _ _ _ _ _ _ (World.drew _)
  refine wpAny_take (i := 0) (v := ?v0) rfl (by kernel_rfl) (by kernel_rfl) (by kernel_rfl) (fun _ _ _ h => h) (Or.inl ⟨by rfl, ?y0⟩) ?_
  case y0 => (intro w'; go_simp; try with_reducible rfl)
  refine wpAny_take (i := 1) (v := ?v1) rfl (by kernel_rfl) (by kernel_rfl) (by kernel_rfl) (fun _ _ _ h => h) (Or.inl ⟨by rfl, ?y1⟩) ?_
  case y1 => (intro w'; go_simp; try with_reducible rfl)
  refine wpAny_ready (rs := [2]) (by kernel_rfl) (by simp) (AllReady.cons rfl (fun K hK => ?_) AllReady.nil)
  refine step_copy_set rfl (.tmp 10) (.tmp 11) 33 33 rfl 5 Try.underlying33 info5 ⟨w1.heap.size, 0, none⟩ (w.heap.size + 1 + 1) 0 32 32 64 64 rfl rfl (bv z) 23 ?c3 (bv p) ?c1 ?c4 ?c2 (bv_one _) 32 (by rw [bv_length, HP3.out]) ?_
  case c3 => exact D3.out
  case c4 => exact fun j v hv => by rw [add_head]; rw [HPP.out] at hv; exact (D5.out.cell j).trans (by rw [bva, List.getElem?_toArray]; exact bv_take_get hv)
  case c1 => rw [bv_length, HP3.out]; rfl
  case c2 => rw [bv_length, bv_length, HP3.out, Z3.out]; omega
  generalize hw4 : World.setRow _ _ _ = w4
  have r3 : Blk w4 (w.heap.size + 1 + 1) (bva p) 23 := by
    rw [← hw4, splice_whole _ _ (by rw [bv_length, bv_length, HP3.out, Z3.out])]; exact setRow_heap _ _ _ _ _ _ D3.out
  have r4 : Blk w4 (w.heap.size + 1 + 1 + 1) (bva z) 23 := by rw [← hw4]; unfold Blk; rw [setRow_other _ _ _ _ (by omega)]; exact D4.out
  have r5 : Blk w4 w1.heap.size (bva L) 52 := by rw [← hw4]; unfold Blk; rw [setRow_other _ _ _ _ (by omega)]; exact D5.out
  have rb : Below w.heap.size w w4 := by rw [← hw4]; exact below_setRow DB.out.drew (by omega) _
  have R3 := Lib.hid r3
  have R4 := Lib.hid r4
  have R5 := Lib.hid r5
  have RB := Lib.hid rb
  clear r3 r4 r5 rb hw4 D3 D4 D5 DB
  refine hK _ _ ?_
  clear hK K
  refine wpAny_take (i := 3) (v := ?v3) rfl (by kernel_rfl) (by kernel_rfl) (by kernel_rfl) (fun _ _ _ h => h) (Or.inl ⟨by rfl, ?y3⟩) ?_
  case y3 => (intro w'; go_simp; try with_reducible rfl)
  refine wpAny_done (by kernel_rfl) ?_ _
  go_wp2_with fail
  simp only [List.getElem_toArray, List.getElem_cons_succ, List.getElem_cons_zero, Act.put, List.setIfInBounds_toArray, List.set_cons_zero, List.set_cons_succ]
  refine wp_region_any (by kernel_rfl) ?_
  change wpAny _ _ _ _ _ _ _ (World.drew _)
  refine wpAny_take (i := 0) (v := ?w0) rfl (by kernel_rfl) (by kernel_rfl) (by kernel_rfl) (fun _ _ _ h => h) (Or.inl ⟨by rfl, ?z0⟩) ?_
  case z0 => (intro w'; go_simp; try with_reducible rfl)
  refine wpAny_take (i := 1) (v := ?w1) rfl (by kernel_rfl) (by kernel_rfl) (by kernel_rfl) (fun _ _ _ h => h) (Or.inl ⟨by rfl, ?z1⟩) ?_
  case z1 => (intro w'; go_simp; try with_reducible rfl)
  refine wpAny_take (i := 2) (v := ?w2) rfl (by kernel_rfl) (by kernel_rfl) (by kernel_rfl) (fun _ _ _ h => h) (Or.inl ⟨by rfl, ?z2⟩) ?_
  case z2 => (intro w'; go_simp; try with_reducible rfl)
  simp only [List.getElem_toArray, List.getElem_cons_succ, List.getElem_cons_zero, Act.put, List.setIfInBounds_toArray, List.set_cons_zero, List.set_cons_succ]
  refine wpAny_ready (rs := [3]) (by kernel_rfl) (by simp) (AllReady.cons rfl (fun K hK => ?_) AllReady.nil)
  refine step_copy_set rfl (.tmp 13) (.tmp 15) 33 33 rfl 5 Try.underlying33 info5 ⟨w1.heap.size, 32, none⟩ (w.heap.size + 1 + 1 + 1) 0 32 32 32 32 rfl rfl (bv z) 23 ?d3 (bv q) ?d1 ?d4 ?d2 (bv_one _) 32 (by rw [bv_length, HQ3.out]) ?_
  case d3 => exact R4.out
  case d4 => exact fun j v hv => by rw [Addr.add_mid]; rw [HQQ.out] at hv; exact (R5.out.cell (32 + j)).trans (by rw [bva, List.getElem?_toArray]; exact bv_drop_get hv)
  case d1 => rw [bv_length, HQ3.out]; rfl
  case d2 => rw [bv_length, bv_length, HQ3.out, Z3.out]; omega
  generalize hw5 : World.setRow _ _ _ = w5
  have s4 : Blk w5 (w.heap.size + 1 + 1 + 1) (bva q) 23 := by
    rw [← hw5, splice_whole _ _ (by rw [bv_length, bv_length, HQ3.out, Z3.out])]; exact setRow_heap _ _ _ _ _ _ R4.out
  have s3 : Blk w5 (w.heap.size + 1 + 1) (bva p) 23 := by rw [← hw5]; unfold Blk; rw [setRow_other _ _ _ _ (by omega)]; exact R3.out
  have sb : Below w.heap.size w w5 := by rw [← hw5]; exact below_setRow RB.out.drew (by omega) _
  have S3 := Lib.hid s3
  have S4 := Lib.hid s4
  have SB := Lib.hid sb
  clear s3 s4 sb hw5 R3 R4 R5 RB
  refine hK _ _ ?_
  clear hK K
  refine wpAny_done (by kernel_rfl) ?_ _
  simp only [List.getElem_toArray, List.getElem_cons_succ, List.getElem_cons_zero, Act.put, List.setIfInBounds_toArray, List.set_cons_zero, List.set_cons_succ]
  go_wp2_with (first
    | (refine wpList_load_row rfl 23 (.tmp 4) rfl (w.heap.size + 1 + 1) rfl 23 (bva p) (0, 0) _ S3.out Try.underlying23 rfl HP.out ?_)
    | (refine wpList_load_row rfl 23 (.tmp 5) rfl (w.heap.size + 1 + 1 + 1) rfl 23 (bva q) (0, 0) _ S4.out Try.underlying23 rfl HQ.out ?_)
    | (refine wpList_store_row rfl 23 (.tmp 4) (.tmp 17) rfl (w.heap.size + 1 + 1) (bva p) rfl rfl 23 (bva p) S3.out HP.out rfl (bva_one _) ?_
       generalize hw6 : World.setRow _ _ _ = w6
       have u3 : Blk w6 (w.heap.size + 1 + 1) (bva p) 23 := by rw [← hw6]; exact setRow_heap _ _ _ _ _ _ S3.out
       have u4 : Blk w6 (w.heap.size + 1 + 1 + 1) (bva q) 23 := by rw [← hw6]; unfold Blk; rw [setRow_other _ _ _ _ (by omega)]; exact S4.out
       have ub : Below w.heap.size w w6 := by rw [← hw6]; exact below_setRow SB.out (by omega) _
       have U3 := Lib.hid u3
       have U4 := Lib.hid u4
       have UB := Lib.hid ub
       clear u3 u4 ub hw6 S3 S4 SB)
    | (refine wpList_store_row rfl 23 (.tmp 5) (.tmp 18) rfl (w.heap.size + 1 + 1 + 1) (bva q) rfl rfl 23 (bva q) U4.out HQ.out rfl (bva_one _) ?_))
  exact bodyPost_ret (v := .tuple #[.agg (bva p), .agg (bva q)]) (results_cells2 Try.results11 _ _ (w.heap.size + 1 + 1) (w.heap.size + 1 + 1 + 1) 23 23 (bva p) (bva q) _ rfl rfl (by unfold Blk; rw [setRow_other _ _ _ _ (by omega)]; exact U3.out) (setRow_heap _ _ _ _ _ _ U4.out) Try.underlying23 rfl HP.out HQ.out) rfl ⟨by rw [leftL, rightL, HPP.out, HQQ.out, HLL.out], below_setRow UB.out (by omega) _⟩
end Go.Proofs.Ytobkkbpeoohfkaa.Ci
