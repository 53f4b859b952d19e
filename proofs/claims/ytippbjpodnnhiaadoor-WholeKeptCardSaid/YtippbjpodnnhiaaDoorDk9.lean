/-
  Texts of this seat, one behind the other: CiRealS, KcReal, KgPun, KgTKey, KgAwake, EqSelf, EqBytes, OpenI, KgLaw.
-/
import Derived.ChangeKeysEq
import Derived.OpenShut
import Derived.Test.YtippbjpodnnhiaaDoorDk8
/-
  The contract of the real cipher's Split.
-/
namespace Go.Proofs.YtippbjpodnnhiaaDoor.Ci
open Go.RowKit
attribute [local go_sem ↓] Go.wp_at_zero Go.wp_at_succ
theorem info_64 : (Tryd.prog.info? 104).map (·.size) = some 64 := by kernel_rfl
theorem info_keyR : (Tryd.prog.info? 23).map (·.size) = some 32 := by kernel_rfl
theorem info5r : (Tryd.prog.info? 5).map (·.size) = some 1 := by kernel_rfl
/-- Two arrays are told. -/
theorem results_cells2 {P : Program} {fn : Func} {p q : Tmp} {ty : TypeId} (h : fn.results = #[.cell p ty, .cell q ty]) (tmps : Array Value) (w : World) (g g' : Nat) (t t' : TypeId) (cs cs' : Array Value) (d : TypeDesc)
    (hp : tmps.getD p undef = .pointer (some ⟨g, 0, none⟩)) (hq : tmps.getD q undef = .pointer (some ⟨g', 0, none⟩)) (hg : Blk w g cs t) (hg' : Blk w g' cs' t')
    (hu : P.underlying ty = some d) (hd : (match d with | .struct _ | .array _ _ => true | _ => false) = true) (hi : (P.info? ty).map (·.size) = some cs.size) (hi' : (P.info? ty).map (·.size) = some cs'.size) :
    (results fn tmps).run P w = .ok (.tuple #[.agg cs, .agg cs']) w := by
  have hp' : tmps[p]?.getD undef = .pointer (some ⟨g, 0, none⟩) := by simpa using hp
  have hq' : tmps[q]?.getD undef = .pointer (some ⟨g', 0, none⟩) := by simpa using hq
  simp [results, h, hp', hq', asAddr, run_loadVar_row w g t ty cs (0, 0) d hg hu hd hi, run_loadVar_row w g' t' ty cs' (0, 0) d hg' hu hd hi']
theorem four_blocks (w : World) (A B C D : Obj) : ((((w.alloc A).alloc B).alloc C).alloc D).heap[w.heap.size]? = some A ∧ ((((w.alloc A).alloc B).alloc C).alloc D).heap[w.heap.size + 1]? = some B ∧ ((((w.alloc A).alloc B).alloc C).alloc D).heap[w.heap.size + 1 + 1]? = some C ∧ ((((w.alloc A).alloc B).alloc C).alloc D).heap[w.heap.size + 1 + 1 + 1]? = some D ∧ Below w.heap.size w ((((w.alloc A).alloc B).alloc C).alloc D) := by
  obtain ⟨h1, h2, h3, hb⟩ := three_blocks w A B C
  have hs : (((w.alloc A).alloc B).alloc C).heap.size = w.heap.size + 1 + 1 + 1 := by simp
  refine ⟨?_, ?_, ?_, ?_, hb.alloc (by rw [hs]; omega) _⟩
  · rw [heap_alloc_old _ _ (by rw [hs]; omega)]; exact h1
  · rw [heap_alloc_old _ _ (by rw [hs]; omega)]; exact h2
  · rw [heap_alloc_old _ _ (by rw [hs]; omega)]; exact h3
  · rw [← hs]; exact heap_alloc_new _ _
theorem blk_old1 {w : World} {g : Nat} {cs : Array Value} {t : TypeId} {A : Obj} (h : Blk w g cs t) : Blk (w.alloc A) g cs t := (heap_alloc_old _ _ h.lt).trans h
theorem blk_old2 {w : World} {g : Nat} {cs : Array Value} {t : TypeId} {A B : Obj} (h : Blk w g cs t) : Blk ((w.alloc A).alloc B) g cs t := blk_old1 (blk_old1 h)
theorem blk_row {w : World} {g g' : Nat} {cs cs' : Array Value} {t : TypeId} (h : Blk w g cs t) (hg : g ≠ g') : Blk (w.setRow g' cs') g cs t := by unfold Blk; rw [setRow_other _ _ _ _ hg]; exact h
theorem below_alloc2 {B : Nat} {w w' : World} {X Y : Obj} (h : Below B w w') (hB : B ≤ w'.heap.size) : Below B w ((w'.alloc X).alloc Y) := (h.alloc hB _).alloc (by simp; omega) _
/-- A key's two. -/
def leftL (k : List UInt8) : List UInt8 := (blockL k 1 0).take 32
def rightL (k : List UInt8) : List UInt8 := (blockL k 1 0).drop 32
theorem leftL_length (k : List UInt8) : (leftL k).length = 32 := by rw [leftL, List.length_take, blockL_length]; rfl
theorem rightL_length (k : List UInt8) : (rightL k).length = 32 := by rw [rightL, List.length_drop, blockL_length]
theorem bv_drop_get {b : List UInt8} {m j : Nat} {v : Value} (h : (bv (b.drop m))[j]? = some v) : (bv b)[m + j]? = some v := by
  rw [bv_drop, List.getElem?_drop] at h
  exact h
set_option maxRecDepth 100000 in
set_option maxHeartbeats 1600000 in
theorem realsplit_any (key : List UInt8) (hk : key.length = 32) (w : World) :
    Calls Tryd.prog 60 #[.agg #[], .agg (bva key)] w (RetB (.tuple #[.agg (bva (leftL key)), .agg (bva (rightL key))]) w) := by
  obtain ⟨z, hz0⟩ : ∃ z : List UInt8, z = List.replicate 32 0 := ⟨_, rfl⟩
  obtain ⟨y, hy0⟩ : ∃ y : List UInt8, y = List.replicate 64 0 := ⟨_, rfl⟩
  obtain ⟨b1, b2, b3, b4, hb⟩ := four_blocks w (.cells #[] 49) (.cells (bva key) 23) (.cells (bva z) 23) (.cells (bva z) 23)
  have hz : ∀ W, (zeroValue 23).run Tryd.prog W = .ok (.agg (bva z)) W := fun _ => by rw [hz0]; kernel_rfl
  have hy : ∀ W, (zeroValue 104).run Tryd.prog W = .ok (.agg (bva y)) W := fun _ => by rw [hy0]; kernel_rfl
  have Z3 : Hid (z.length = 32) := by show _ = _; rw [hz0]; rfl
  have Y3 : Hid (y.length = 64) := by show _ = _; rw [hy0]; rfl
  obtain ⟨L, hL⟩ : ∃ L, L = blockL key 1 0 := ⟨_, rfl⟩
  have HL3 : Hid (L.length = 64) := by show _ = _; rw [hL, blockL_length]
  have HL : Hid ((Tryd.prog.info? 104).map (·.size) = some (bva L).size) := by rw [bva_size, HL3.out]; exact info_64
  have HLL := Lib.hid hL
  obtain ⟨p, hp⟩ : ∃ p, p = L.take 32 := ⟨_, rfl⟩
  have HP3 : Hid (p.length = 32) := by show _ = _; rw [hp, List.length_take, HL3.out]; rfl
  have HP : Hid ((Tryd.prog.info? 23).map (·.size) = some (bva p).size) := by rw [bva_size, HP3.out]; exact info_keyR
  have HPP := Lib.hid hp
  obtain ⟨q, hq⟩ : ∃ q, q = L.drop 32 := ⟨_, rfl⟩
  have HQ3 : Hid (q.length = 32) := by show _ = _; rw [hq, List.length_drop, HL3.out]
  have HQ : Hid ((Tryd.prog.info? 23).map (·.size) = some (bva q).size) := by rw [bva_size, HQ3.out]; exact info_keyR
  have HQQ := Lib.hid hq
  have B2 := Lib.hid (show Blk _ _ _ _ from b2)
  have B3 := Lib.hid (show Blk _ _ _ _ from b3)
  have B4 := Lib.hid (show Blk _ _ _ _ from b4)
  have BB := Lib.hid hb
  have HK := Lib.hid hk
  have HI : Hid ((Tryd.prog.info? 23).map (·.size) = some (bva key).size) := by rw [bva_size, hk]; exact info_keyR
  clear hz0 hy0 b1 b2 b3 b4 hb hk hL hp hq
  go_enter Tryd.func60, Tryd.ntmps60
  go_wp2_with (refine wpList_load_row rfl 23 (.tmp 3) rfl (w.heap.size + 1) rfl 23 (bva key) (0, 0) _ ?hg Tryd.underlying23 rfl HI.out ?_; case hg => exact B2.out)
  refine (block_any key HK.out 1 0 _).mono ?_
  rintro e w1 ⟨rfl, bw⟩
  rw [← HLL.out]
  have C3 := Lib.hid (B3.out.below bw)
  have C4 := Lib.hid (B4.out.below bw)
  have CB := Lib.hid (BB.out.trans (bw.mono BB.out.size))
  have hw1 : w.heap.size + 1 + 1 + 1 < w1.heap.size := by have h1 := C4.out.lt; omega
  clear bw B2 B3 B4 BB
  go_wp2_with (refine wpList_store_row rfl 104 (.tmp 6) (.tmp 9) rfl w1.heap.size (bva L) rfl rfl 104 (bva y) (heap_alloc_new _ _) HL.out (by simp only [bva_size, HL3.out, Y3.out]) (bva_one _) ?_
               generalize hw2 : World.setRow _ _ _ = w2
               have d3 : Blk w2 (w.heap.size + 1 + 1) (bva z) 23 := by rw [← hw2]; exact blk_past C3.out
               have d4 : Blk w2 (w.heap.size + 1 + 1 + 1) (bva z) 23 := by rw [← hw2]; exact blk_past C4.out
               have d5 : Blk w2 w1.heap.size (bva L) 104 := by rw [← hw2]; exact blk_new _
               have db : Below w.heap.size w w2 := by rw [← hw2]; exact below_new CB.out CB.out.size
               have D3 := Lib.hid d3
               have D4 := Lib.hid d4
               have D5 := Lib.hid d5
               have DB := Lib.hid db
               clear d3 d4 d5 db hw2 C3 C4 CB)
  refine wp_region_any (by kernel_rfl) ?_
  change wpAny _ _ _ _ _ _ _ (World.drew _)
  refine wpAny_take (i := 0) (v := ?v0) rfl (by kernel_rfl) (by kernel_rfl) (by kernel_rfl) (fun _ _ _ h => h) (Or.inl ⟨by rfl, ?y0⟩) ?_
  case y0 => (intro w'; go_simp; try with_reducible rfl)
  refine wpAny_take (i := 1) (v := ?v1) rfl (by kernel_rfl) (by kernel_rfl) (by kernel_rfl) (fun _ _ _ h => h) (Or.inl ⟨by rfl, ?y1⟩) ?_
  case y1 => (intro w'; go_simp; try with_reducible rfl)
  refine wpAny_ready (rs := [2]) (by kernel_rfl) (by simp) (AllReady.cons rfl (fun K hK => ?_) AllReady.nil)
  refine step_copy_set rfl (.tmp 10) (.tmp 11) 34 34 rfl 5 Tryd.underlying34 info5r ⟨w1.heap.size, 0, none⟩ (w.heap.size + 1 + 1) 0 32 32 64 64 rfl rfl (bv z) 23 ?c3 (bv p) ?c1 ?c4 ?c2 (bv_one _) 32 (by rw [bv_length, HP3.out]) ?_
  case c3 => exact D3.out
  case c4 => exact fun j v hv => by rw [add_head]; rw [HPP.out] at hv; exact (D5.out.cell j).trans (by rw [bva, List.getElem?_toArray]; exact bv_take_get hv)
  case c1 => rw [bv_length, HP3.out]; rfl
  case c2 => rw [bv_length, bv_length, HP3.out, Z3.out]; omega
  generalize hw4 : World.setRow _ _ _ = w4
  have r3 : Blk w4 (w.heap.size + 1 + 1) (bva p) 23 := by
    rw [← hw4, splice_whole _ _ (by rw [bv_length, bv_length, HP3.out, Z3.out])]; exact setRow_heap _ _ _ _ _ _ D3.out
  have r4 : Blk w4 (w.heap.size + 1 + 1 + 1) (bva z) 23 := by rw [← hw4]; unfold Blk; rw [setRow_other _ _ _ _ (by omega)]; exact D4.out
  have r5 : Blk w4 w1.heap.size (bva L) 104 := by rw [← hw4]; unfold Blk; rw [setRow_other _ _ _ _ (by omega)]; exact D5.out
  have rb : Below w.heap.size w w4 := by rw [← hw4]; exact below_setRow DB.out.drew (by omega) _
  have R3 := Lib.hid r3
  have R4 := Lib.hid r4
  have R5 := Lib.hid r5
  have RB := Lib.hid rb
  clear r3 r4 r5 rb hw4 D3 D4 D5 DB
  refine hK _ _ ?_
  clear hK K
  refine wpAny_take (i := 3) (v := ?v3) rfl (by kernel_rfl) (by kernel_rfl) (by kernel_rfl) (fun _ _ _ h => h) (Or.inl ⟨by rfl, ?y3⟩) ?_
  case y3 => (intro w'; go_simp; try with_reducible rfl)
  refine wpAny_done (by kernel_rfl) ?_ _
  go_wp2_with fail
  simp only [List.getElem_toArray, List.getElem_cons_succ, List.getElem_cons_zero, Act.put, List.setIfInBounds_toArray, List.set_cons_zero, List.set_cons_succ]
  refine wp_region_any (by kernel_rfl) ?_
  change wpAny _ _ _ _ _ _ _ (World.drew _)
  refine wpAny_take (i := 0) (v := ?w0) rfl (by kernel_rfl) (by kernel_rfl) (by kernel_rfl) (fun _ _ _ h => h) (Or.inl ⟨by rfl, ?z0⟩) ?_
  case z0 => (intro w'; go_simp; try with_reducible rfl)
  refine wpAny_take (i := 1) (v := ?w1) rfl (by kernel_rfl) (by kernel_rfl) (by kernel_rfl) (fun _ _ _ h => h) (Or.inl ⟨by rfl, ?z1⟩) ?_
  case z1 => (intro w'; go_simp; try with_reducible rfl)
  refine wpAny_take (i := 2) (v := ?w2) rfl (by kernel_rfl) (by kernel_rfl) (by kernel_rfl) (fun _ _ _ h => h) (Or.inl ⟨by rfl, ?z2⟩) ?_
  case z2 => (intro w'; go_simp; try with_reducible rfl)
  simp only [List.getElem_toArray, List.getElem_cons_succ, List.getElem_cons_zero, Act.put, List.setIfInBounds_toArray, List.set_cons_zero, List.set_cons_succ]
  refine wpAny_ready (rs := [3]) (by kernel_rfl) (by simp) (AllReady.cons rfl (fun K hK => ?_) AllReady.nil)
  refine step_copy_set rfl (.tmp 13) (.tmp 15) 34 34 rfl 5 Tryd.underlying34 info5r ⟨w1.heap.size, 32, none⟩ (w.heap.size + 1 + 1 + 1) 0 32 32 32 32 rfl rfl (bv z) 23 ?d3 (bv q) ?d1 ?d4 ?d2 (bv_one _) 32 (by rw [bv_length, HQ3.out]) ?_
  case d3 => exact R4.out
  case d4 => exact fun j v hv => by rw [Addr.add_mid]; rw [HQQ.out] at hv; exact (R5.out.cell (32 + j)).trans (by rw [bva, List.getElem?_toArray]; exact bv_drop_get hv)
  case d1 => rw [bv_length, HQ3.out]; rfl
  case d2 => rw [bv_length, bv_length, HQ3.out, Z3.out]; omega
  generalize hw5 : World.setRow _ _ _ = w5
  have s4 : Blk w5 (w.heap.size + 1 + 1 + 1) (bva q) 23 := by
    rw [← hw5, splice_whole _ _ (by rw [bv_length, bv_length, HQ3.out, Z3.out])]; exact setRow_heap _ _ _ _ _ _ R4.out
  have s3 : Blk w5 (w.heap.size + 1 + 1) (bva p) 23 := by rw [← hw5]; unfold Blk; rw [setRow_other _ _ _ _ (by omega)]; exact R3.out
  have sb : Below w.heap.size w w5 := by rw [← hw5]; exact below_setRow RB.out.drew (by omega) _
  have S3 := Lib.hid s3
  have S4 := Lib.hid s4
  have SB := Lib.hid sb
  clear s3 s4 sb hw5 R3 R4 R5 RB
  refine hK _ _ ?_
  clear hK K
  refine wpAny_done (by kernel_rfl) ?_ _
  simp only [List.getElem_toArray, List.getElem_cons_succ, List.getElem_cons_zero, Act.put, List.setIfInBounds_toArray, List.set_cons_zero, List.set_cons_succ]
  go_wp2_with (first
    | (refine wpList_load_row rfl 23 (.tmp 4) rfl (w.heap.size + 1 + 1) rfl 23 (bva p) (0, 0) _ S3.out Tryd.underlying23 rfl HP.out ?_)
    | (refine wpList_load_row rfl 23 (.tmp 5) rfl (w.heap.size + 1 + 1 + 1) rfl 23 (bva q) (0, 0) _ S4.out Tryd.underlying23 rfl HQ.out ?_)
    | (refine wpList_store_row rfl 23 (.tmp 4) (.tmp 17) rfl (w.heap.size + 1 + 1) (bva p) rfl rfl 23 (bva p) S3.out HP.out rfl (bva_one _) ?_
       generalize hw6 : World.setRow _ _ _ = w6
       have u3 : Blk w6 (w.heap.size + 1 + 1) (bva p) 23 := by rw [← hw6]; exact setRow_heap _ _ _ _ _ _ S3.out
       have u4 : Blk w6 (w.heap.size + 1 + 1 + 1) (bva q) 23 := by rw [← hw6]; unfold Blk; rw [setRow_other _ _ _ _ (by omega)]; exact S4.out
       have ub : Below w.heap.size w w6 := by rw [← hw6]; exact below_setRow SB.out (by omega) _
       have U3 := Lib.hid u3
       have U4 := Lib.hid u4
       have UB := Lib.hid ub
       clear u3 u4 ub hw6 S3 S4 SB)
    | (refine wpList_store_row rfl 23 (.tmp 5) (.tmp 18) rfl (w.heap.size + 1 + 1 + 1) (bva q) rfl rfl 23 (bva q) U4.out HQ.out rfl (bva_one _) ?_))
  exact bodyPost_ret (v := .tuple #[.agg (bva p), .agg (bva q)]) (results_cells2 Tryd.results60 _ _ (w.heap.size + 1 + 1) (w.heap.size + 1 + 1 + 1) 23 23 (bva p) (bva q) _ rfl rfl (by unfold Blk; rw [setRow_other _ _ _ _ (by omega)]; exact U3.out) (setRow_heap _ _ _ _ _ _ U4.out) Tryd.underlying23 rfl HP.out HQ.out) rfl ⟨by rw [leftL, rightL, HPP.out, HQQ.out, HLL.out], below_setRow UB.out (by omega) _⟩
end Go.Proofs.YtippbjpodnnhiaaDoor.Ci
/-
  The real cipher as a cipher that a tree of keys is made of.
-/
namespace Go.Proofs.YtippbjpodnnhiaaDoor.Kc
open Go.RowKit Kg
theorem real_method (x : Array Value) (fuel : Nat) (W : World) : (method (fuel + 1) 49 (.agg x) "Split").run Tryd.prog W = .ok (60, .agg x) W := by kernel_rfl
theorem real_calls (args : Array Value) (W : World) : (callFunc 60 args).run Tryd.prog W = .ok (.enter 60 args) W := by kernel_rfl
/-- The real cipher. -/
def realC : Ciph := ⟨49, .agg #[], 60, Ci.leftL, Ci.rightL, Ci.leftL_length, Ci.rightL_length, fun fuel W => real_method #[] fuel W, fun args W => real_calls args W, fun k hk W => Ci.realsplit_any k hk W⟩
end Go.Proofs.YtippbjpodnnhiaaDoor.Kc
/-
  The contract of the tree's Puncture.
-/
namespace Go.Proofs.YtippbjpodnnhiaaDoor.Kg
open Go.RowKit
variable {ci : Ciph}
attribute [local go_sem ↓] Go.wp_at_zero Go.wp_at_succ
/-- What a puncture leaves: the tree without the leaf; all else as it was, but for the tree's own blocks. -/
def RetPun (ci : Ciph) (g : Nat) (l : List Nd) (m : Int) (F : Nat → Prop) (w : World) (e : Ending) (w' : World) : Prop :=
  e = .returned (.bool (hasI l m)) ∧ ∃ F', Tr ci w' g (punL ci l m) F' ∧ But F w w' ∧ ∀ k, F' k → F k ∨ w.heap.size ≤ k
theorem punL_hasnt {l : List Nd} {m : Int} (h : hasI l m = false) : punL ci l m = l := by
  refine punL_not (ci := ci) fun x hx => ?_
  rw [hasI, List.any_eq_false] at h
  have := h x hx
  simpa using this
set_option maxRecDepth 100000 in
set_option maxHeartbeats 1600000 in
theorem tpuncture_any (g : Nat) (l : List Nd) (F : Nat → Prop) (m : Int) (w : World) (h : Tr ci w g l F) :
    Calls Tryd.prog 6 #[.pointer (some ⟨g, 0, none⟩), .int .u64 m] w (RetPun ci g l m F w) := by
  obtain ⟨A, n, c, ht, hFg, hFo, hFl⟩ := h
  have HT := Lib.hid ht
  have HFG := Lib.hid hFg
  have HFO := Lib.hid hFo
  have HFL := Lib.hid hFl
  clear ht hFg hFo hFl
  go_enter Tryd.func6, Tryd.ntmps6
  go_wp2_with fail
  refine (find_any g A n c l m _ HT.out).mono ?_
  rintro e w2 ⟨i, b, rfl, hf, bw⟩
  have hhas := hasI_found HT.out.ok hf
  have HT2 := Lib.hid (HT.out.below bw)
  have HB2 := Lib.hid bw
  have HH := Lib.hid hhas
  have HF := Lib.hid hf
  clear bw hhas hf
  cases b with
  | false =>
    go_wp2_with fail
    go_ret
    have e0 : hasI l m = false := HH.out.symm
    refine ⟨by rw [e0]; rfl, F, ?_, But.of_below HB2.out (fun k h1 h2 => by omega), fun k hk => .inl hk⟩
    rw [punL_hasnt (ci := ci) e0]
    exact ⟨A, n, c, HT2.out, HFG.out, HFO.out, fun k hk => Nat.lt_of_lt_of_le (HFL.out k hk) HB2.out.size⟩
  | true =>
    obtain ⟨x, hx, hin, _⟩ := found_yes HT.out.ok HF.out
    have hil : i < l.length := (List.getElem?_eq_some_iff.1 hx).1
    have hin' : i < n := by rw [← HT.out.len]; exact hil
    have hxe : l[i] = x := (List.getElem?_eq_some_iff.1 hx).2
    have hpun := punL_found (ci := ci) HT.out.ok HF.out hx
    have hxo : okH x := by rw [← hxe]; exact (okS_mem HT.out.ok _ (List.getElem_mem hil)).1
    obtain ⟨ad, hA, hbl, hcell⟩ := rd_node HT2.out.rd HT2.out.len3 hil
    obtain ⟨h, rfl⟩ : ∃ h, A = some ⟨h, 0, none⟩ := by
      rcases own_addrN HT.out.own with ⟨h1, h2, _⟩ | h1
      · omega
      · exact h1
    injection hA with hA
    subst hA
    rw [hxe] at hcell
    have c1 := HT2.out.c1
    have HX := Lib.hid hxo
    have HIN := Lib.hid hin
    have HP := Lib.hid hpun
    have hcell' : ∀ j v, (ndV x)[j]? = some v → w2.cell? ((⟨h, i * 34, none⟩ : Addr).add j) = some v := fun j v hv => by
      have := hcell j v hv
      rwa [show ((⟨h, 0, none⟩ : Addr).add (i * 34)) = ⟨h, i * 34, none⟩ by rw [Addr.add_mid, Nat.zero_add]] at this
    have HC := Lib.hid hcell'
    have HI : Hid ((Tryd.prog.info? 53).map (·.size) = some (ndV x).length) := by rw [ndV_length hxo.2.2.2.2.2]; exact info_held
    have k0 : (0 : Int) ≤ (i : Int) := by omega
    have k1 : (i : Int) < (n : Int) := by omega
    have hfew := HT.out.few
    clear hx hin hxe hpun hxo hcell hcell' hbl
    go_wp2_with (refine wpList_load_at rfl 53 (.tmp 22) rfl ⟨h, i * 34, none⟩ rfl HC.out Tryd.underlying53 rfl HI.out ?_
                 change wpList _ _ _ _ (Act.put _ _ (.agg (ndC x))) _)
    refine (besides_any g x m _ HX.out HIN.out HT2.out.c0).mono ?_
    rintro e w3 ⟨A3, n3, c3, rfl, ho3, bw3⟩
    have ht3 := HT2.out.below bw3
    have hn3 : n3 ≤ 131072 := by
      have h1 := ho3.1
      rw [nvs_length (woL_len (ci := ci) _ x m HX.out.2.2.2.2.2)] at h1
      have h2 := woL_count (ci := ci) (17 - x.d).toNat x m
      have h3 : 2 ^ (17 - x.d).toNat ≤ 2 ^ 17 := Nat.pow_le_pow_right (by omega) (by have := HX.out.1; omega)
      omega
    have HT3 := Lib.hid ht3
    have HO3 := Lib.hid ho3
    have HB3 := Lib.hid (HB2.out.trans (bw3.mono HB2.out.size))
    have hgh : h ≠ g := fun e => HT.out.apart (by rw [e]; rfl)
    have c1 := ht3.c1
    have ei : IntKind.i64.wrap ((i : Int) + 1) = (i : Int) + 1 := IntWalk.i64_in _ (by omega)
    have hvl : (woL ci (17 - x.d).toNat x m).length = n3 := by
      have h1 := ho3.1
      rw [nvs_length (woL_len (ci := ci) _ x m HX.out.2.2.2.2.2)] at h1
      omega
    have HVL := Lib.hid hvl
    clear ho3 bw3 ht3 HT2 HC hvl
    go_wp2_with fail
    refine (delete_any h n c i l _ HT3.out.len HT3.out.len3 hin' (own_moreN HT3.out.own (Nat.zero_le _))).mono ?_
    rintro e w4 ⟨rfl, ho4, hb4⟩
    have hg4 : Blk w4 g #[ci.v, .slice (some ⟨h, 0, none⟩) n c] 58 := HT3.out.blk.but hb4 (fun e => hgh e.symm)
    have fr := hg4.free 1
    have hg5 : Blk (w4.setCell ⟨g, 1, none⟩ (.slice (some ⟨h, 0, none⟩) (n - 1) c)) g #[ci.v, .slice (some ⟨h, 0, none⟩) (n - 1) c] 58 := heap_setCell_same _ _ _ _ _ _ hg4
    have c4 : w4.cell? ⟨g, 1, none⟩ = some (.slice (some ⟨h, 0, none⟩) n c) := by rw [hg4.cell]; rfl
    have hb5 : But F w3 (w4.setCell ⟨g, 1, none⟩ (.slice (some ⟨h, 0, none⟩) (n - 1) c)) := (hb4.mono (fun k hk => by rw [hk]; exact HFO.out h rfl)).setCell (.inl HFG.out) _
    have ho5 : (w4.setCell ⟨g, 1, none⟩ (.slice (some ⟨h, 0, none⟩) (n - 1) c)).ownsRow 0 53 34 (.slice (some ⟨h, 0, none⟩) (n - 1) c) (n - 1) (nvs (l.take i ++ l.drop (i + 1))) :=
      Own.but (S := (· = g)) ho4 (But.setCell (S := (· = g)) (But.refl w4) (.inl rfl) _) (fun k hk e => by injection hk with hk; exact hgh (hk.trans e))
    have hv5 : (w4.setCell ⟨g, 1, none⟩ (.slice (some ⟨h, 0, none⟩) (n - 1) c)).ownsRow w2.heap.size 53 34 (.slice A3 n3 c3) n3 (nvs (woL ci (17 - x.d).toNat x m)) :=
      Own.but HO3.out hb5 (fun k hk hF => by have h1 := (own_loN HO3.out k hk).1; have h2 := HFL.out k hF; have h3 := HB2.out.size; omega)
    have G5 := Lib.hid hg5
    have B5 := Lib.hid hb5
    have O5 := Lib.hid ho5
    have V5 := Lib.hid hv5
    clear hg4 hg5 hb4 hb5 ho4 ho5 hv5 c1
    go_wp2_with fail
    have hl3 : ∀ z ∈ l.take i ++ l.drop (i + 1), z.s.length = 32 := fun z hz => by
      rcases List.mem_append.1 hz with hz | hz
      · exact HT.out.len3 z (List.mem_of_mem_take hz)
      · exact HT.out.len3 z (List.mem_of_mem_drop hz)
    have hln : (l.take i ++ l.drop (i + 1)).length = n - 1 := by
      have := HT.out.len
      rw [List.length_append, List.length_take, List.length_drop]; omega
    refine (insert_any (some ⟨h, 0, none⟩) A3 (n - 1) c i n3 c3 _ _ _ hln hl3 (by omega) O5.out (own_moreN V5.out (Nat.zero_le _)) HVL.out (woL_len (ci := ci) _ x m HX.out.2.2.2.2.2) (by omega)
      (fun k hk hk' => by have h1 := (own_loN HO3.out k hk').1; have h2 := HFL.out k (HFO.out k hk); have h3 := HB2.out.size; omega)).mono ?_
    rintro e w6 ⟨A6, c6, rfl, ho6, hb6, hk6⟩
    have hil' : (l.take i).length = i := by rw [List.length_take]; omega
    have hpl : (l.take i ++ l.drop (i + 1)).take i ++ woL ci (17 - x.d).toNat x m ++ (l.take i ++ l.drop (i + 1)).drop i = punL ci l m := by
      rw [HP.out, List.take_left' hil', List.drop_left' hil']
    rw [hpl] at ho6
    have hg6 : Blk w6 g #[ci.v, .slice (some ⟨h, 0, none⟩) (n - 1) c] 58 := G5.out.but hb6 (fun e => hgh (by injection e))
    have fr6 := hg6.free 1
    have c6' : w6.cell? ⟨g, 1, none⟩ = some (.slice (some ⟨h, 0, none⟩) (n - 1) c) := by rw [hg6.cell]; rfl
    have hg7 : Blk (w6.setCell ⟨g, 1, none⟩ (.slice A6 (n - 1 + n3) c6)) g #[ci.v, .slice A6 (n - 1 + n3) c6] 58 := heap_setCell_same _ _ _ _ _ _ hg6
    have hag : (Value.slice A6 (n - 1 + n3) c6).ownBlock ≠ some g := fun e => by
      rcases hk6 g e with h1 | h1
      · exact hgh (by injection h1)
      · have := G5.out.lt; omega
    have hb7 : But F w3 (w6.setCell ⟨g, 1, none⟩ (.slice A6 (n - 1 + n3) c6)) :=
      (B5.out.trans (hb6.mono (fun k hk => HFO.out k hk))).setCell (.inl HFG.out) _
    have ho7 : (w6.setCell ⟨g, 1, none⟩ (.slice A6 (n - 1 + n3) c6)).ownsRow 0 53 34 (.slice A6 (n - 1 + n3) c6) (n - 1 + n3) (nvs (punL ci l m)) :=
      Own.but (S := (· = g)) ho6 (But.setCell (S := (· = g)) (But.refl w6) (.inl rfl) _) (fun k hk e => hag (by rw [hk, e]))
    have hpok := punL_ok (ci := ci) m HT.out.ok
    have hpn : (punL ci l m).length = n - 1 + n3 := by
      have h1 := ho7.1
      rw [nvs_length (okS_len hpok)] at h1; omega
    have hB7 : But F w (w6.setCell ⟨g, 1, none⟩ (.slice A6 (n - 1 + n3) c6)) := (But.of_below HB3.out (fun k h1 h2 => by omega)).trans hb7
    have hs7 : w.heap.size ≤ (w4.setCell ⟨g, 1, none⟩ (.slice (some ⟨h, 0, none⟩) (n - 1) c)).heap.size := Nat.le_trans HB3.out.size B5.out.size
    have ho7l := fun k hk => (own_loN ho7 k hk).2
    have hg7l := hg7.lt
    have HF' : Hid (∀ k, (k = g ∨ (Value.slice A6 (n - 1 + n3) c6).ownBlock = some k) → (F k ∨ w.heap.size ≤ k)) := fun k hk => by
      rcases hk with rfl | hk
      · exact .inl HFG.out
      · rcases hk6 k hk with h1 | h1
        · exact .inl (HFO.out k h1)
        · exact .inr (Nat.le_trans hs7 h1)
    have HTR : Hid (Tr ci (w6.setCell ⟨g, 1, none⟩ (.slice A6 (n - 1 + n3) c6)) g (punL ci l m) (fun k => k = g ∨ (Value.slice A6 (n - 1 + n3) c6).ownBlock = some k)) :=
      ⟨A6, n - 1 + n3, c6, ⟨hg7, ho7, hpn, hpok, hag⟩, .inl rfl, fun k hk => .inr hk, fun k hk => by
        rcases hk with rfl | hk
        · exact hg7l
        · exact ho7l k hk⟩
    have HB7 := Lib.hid hB7
    clear ho6 hb6 hk6 hg6 hg7 hag hb7 ho7 hpok hpn hB7 ho7l hg7l hpl hs7 hl3 hln
    go_wp2_with fail
    go_ret
    exact ⟨by rw [← HH.out]; rfl, _, HTR.out, HB7.out, HF'.out⟩
end Go.Proofs.YtippbjpodnnhiaaDoor.Kg
/-
  The contract of the tree's Key.
-/
namespace Go.Proofs.YtippbjpodnnhiaaDoor.Kg
open Go.RowKit
variable {ci : Ciph}
attribute [local go_sem ↓] Go.wp_at_zero Go.wp_at_succ
theorem near_step (y : Nd) (m : Int) : nearN ci y m = stepK ci y m := by
  unfold nearN stepK
  have e : (ndR ci y).a = IntKind.u64.wrap (y.a + manyI (y.d + 1)) := rfl
  rw [e]
  by_cases h : m < IntKind.u64.wrap (y.a + manyI (y.d + 1))
  · rw [if_pos h, if_neg (by omega)]
  · rw [if_neg h, if_pos (by omega)]
theorem by_rest3 {R G : Nat → Nat → Nat → World → Prop} {p : Prop} (ways : (∀ X Y Z w', R X Y Z w' → G X Y Z w') → p) (rest : ∀ X Y Z w', R X Y Z w' → G X Y Z w') : p := ways rest
theorem okH_step {y : Nd} (m : Int) (hy : okH y) (hd : y.d < 17) : okH (stepK ci y m) := by
  unfold stepK; split
  · exact (ndR_ok (ci := ci) hy hd).1
  · exact (ndL_ok (ci := ci) hy hd).1
set_option maxRecDepth 100000 in
set_option maxHeartbeats 3200000 in
theorem tkey_any (g : Nat) (A : Option Addr) (n c : Nat) (l : List Nd) (m : Int) (w : World) (h : TrA ci w g A n c l) :
    Calls Tryd.prog 12 #[.pointer (some ⟨g, 0, none⟩), .int .u64 m] w (RetB (keyV ci (l.find? (inI · m)) m) w) := by
  obtain ⟨z, hz0⟩ : ∃ z : List UInt8, z = List.replicate 32 0 := ⟨_, rfl⟩
  obtain ⟨cz, hcz⟩ : ∃ cz, cz = ndC zeroNd := ⟨_, rfl⟩
  have hz : ∀ W, (zeroValue 23).run Tryd.prog W = .ok (.agg (bva z)) W := fun _ => by rw [hz0]; kernel_rfl
  have hzh : ∀ W, (zeroValue 53).run Tryd.prog W = .ok (.agg cz) W := fun _ => by rw [hcz]; kernel_rfl
  have HBZ := Lib.hid (show ∀ W, (Instr.build 23 #[]).run Tryd.prog W = .ok (.agg (bva z)) W from fun _ => by rw [hz0]; kernel_rfl)
  have ZH : Hid (cz.size = 34) := by show _ = _; rw [hcz]; exact ndC_size rfl
  have Z3 : Hid (z.length = 32) := by show _ = _; rw [hz0]; rfl
  have HKZ : Hid ((Tryd.prog.info? 23).map (·.size) = some (bva z).size) := by rw [bva_size, Z3.out]; exact info_keyL
  have b1 : Blk (w.alloc (.cells (bva z) 23)) w.heap.size (bva z) 23 := heap_alloc_new _ _
  have hb : Below w.heap.size w (w.alloc (.cells (bva z) 23)) := (Below.refl _ _).alloc (Nat.le_refl _) _
  have HT := Lib.hid h
  have B1 := Lib.hid b1
  have BB := Lib.hid hb
  have Z0 := Lib.hid hz0
  clear h b1 hb hcz hz0
  go_enter Tryd.func12, Tryd.ntmps12
  go_wp2_with fail
  refine (find_any g A n c l m _ (HT.out.below BB.out)).mono ?_
  rintro e w2 ⟨i, b, rfl, hf, bw⟩
  have hB2 := BB.out.trans (bw.mono BB.out.size)
  have HT2 := Lib.hid (HT.out.below hB2)
  have HB2 := Lib.hid hB2
  have HF := Lib.hid hf
  have P1 := Lib.hid (B1.out.below bw)
  clear bw hf hB2 B1 BB
  cases b with
  | false =>
    have hk : l.find? (inI · m) = none := by
      rw [List.find?_eq_none]; intro x hx; rw [found_not HT.out.ok HF.out x hx]; simp
    have HK := Lib.hid hk
    clear hk
    go_wp2_with (first
      | (refine wpList_build rfl 23 #[] rfl (HBZ.out _) ?_)
      | (refine wpList_store_row rfl 23 (.tmp 4) (.tmp 18) rfl w.heap.size (bva z) rfl rfl 23 (bva z) P1.out HKZ.out rfl (bva_one _) ?_
         generalize hwx : World.setRow _ _ _ = wx
         have e1 : Blk wx w.heap.size (bva z) 23 := by rw [← hwx]; exact setRow_heap _ _ _ _ _ _ P1.out
         have eb : Below w.heap.size w wx := by rw [← hwx]; exact below_setRow HB2.out (Nat.le_refl _) _
         have Q1 := Lib.hid e1
         have QB := Lib.hid eb
         clear hwx e1 eb))
    try simp only [Act.put, List.setIfInBounds_toArray, List.set_cons_zero, List.set_cons_succ]
    rw [HK.out, keyV_none, ← Z0.out]
    exact bodyPost_ret (v := .tuple #[.agg (bva z), .bool false]) (results_ct Tryd.results12 _ _ w.heap.size 23 (bva z) _ rfl Q1.out Tryd.underlying23 rfl HKZ.out) rfl ⟨rfl, QB.out⟩
  | true =>
    obtain ⟨x, hx, hin, hbf, _⟩ := found_yes HT.out.ok HF.out
    have hil : i < l.length := (List.getElem?_eq_some_iff.1 hx).1
    have hin' : i < n := by rw [← HT.out.len]; exact hil
    have hxe : l[i] = x := (List.getElem?_eq_some_iff.1 hx).2
    have hxo : okH x := by rw [← hxe]; exact (okS_mem HT.out.ok _ (List.getElem_mem hil)).1
    have hfd : l.find? (inI · m) = some x := by
      have e1 : l = l.take i ++ (x :: l.drop (i + 1)) := by rw [← hxe, ← List.drop_eq_getElem_cons hil, List.take_append_drop]
      rw [e1, List.find?_append, List.find?_eq_none.2 (fun y hy => by rw [hbf y hy]; simp), Option.none_or, List.find?_cons_of_pos (by simpa using hin)]
    obtain ⟨ad, hA, hbl, _⟩ := rd_node HT2.out.rd HT2.out.len3 hil
    subst hA
    have hcell : ∀ w', Below w2.heap.size w2 w' → ∀ j v, (ndV x)[j]? = some v → w'.cell? ((ad.add (i * 34)).add j) = some v := fun w' hb' j v hv => by
      obtain ⟨ad', hA', _, hc⟩ := rd_node (HT2.out.rd.below hb') HT2.out.len3 hil
      injection hA' with hA'
      subst hA'
      exact hc j v (by rw [hxe]; exact hv)
    have hc1 : ∀ w', Below w2.heap.size w2 w' → w'.cell? ⟨g, 1, none⟩ = some (.slice (some ad) n c) := fun w' hb' => (HT2.out.below hb').c1
    have HX := Lib.hid hxo
    have HFD := Lib.hid hfd
    have HCL := Lib.hid hcell
    have HC1 := Lib.hid hc1
    have HI : Hid ((Tryd.prog.info? 53).map (·.size) = some (ndV x).length) := by rw [ndV_length hxo.2.2.2.2.2]; exact info_held
    have HIC : Hid ((Tryd.prog.info? 53).map (·.size) = some (ndC x).size) := by rw [ndC_size hxo.2.2.2.2.2]; exact info_held
    have k0 : (0 : Int) ≤ (i : Int) := by omega
    have k1 : (i : Int) < (n : Int) := by omega
    clear hx hin hbf hxe hxo hfd hcell hc1 hbl
    go_wp2_with fail
    apply by_rest3 (R := fun X p1 p2 w' => Blk w' X (ndC x) 53 ∧ Blk w' p1 #[.pointer (some ⟨g, 0, none⟩)] 27 ∧ Blk w' p2 #[.int .u64 m] 25 ∧ w2.heap.size ≤ X ∧ X ≠ p1 ∧ X ≠ p2 ∧ w2.heap.size ≤ p1 ∧ w2.heap.size ≤ p2 ∧ Below w2.heap.size w2 w')
    case ways =>
      intro hG
      refine wp_region_held_drew (S := fun w' => Below w2.heap.size w2 w') (by kernel_rfl) (Below.refl _ _).drew (fun hh => ?_)
      have HH := Lib.hid hh
      clear hh
      refine wpAnyH_take (i := 0) (v := ?va0) rfl (by kernel_rfl) (by kernel_rfl) (by kernel_rfl) (fun _ _ _ h => h) (Or.inl ⟨by rfl, fun w' _ => ?ya0⟩) HH.out ?_
      case ya0 => (go_simp; try with_reducible rfl)
      refine wpAnyH_take (i := 1) (v := ?va1) rfl (by kernel_rfl) (by kernel_rfl) (by kernel_rfl) (fun _ _ _ h => h) (Or.inl ⟨by rfl, fun w' _ => ?ya1⟩) HH.out ?_
      case ya1 => (go_simp; try with_reducible rfl)
      try simp only [List.getElem_toArray, List.getElem_cons_succ, List.getElem_cons_zero, Act.put, List.setIfInBounds_toArray, List.set_cons_zero, List.set_cons_succ]
      refine wpAnyH_take (i := 2) (v := ?va2) rfl (by kernel_rfl) (by kernel_rfl) (by kernel_rfl) (fun _ _ _ h => h) (Or.inl ⟨by rfl, fun w' _ => ?ya2⟩) HH.out ?_
      case ya2 => (go_simp; try with_reducible rfl)
      refine wpAnyH_take (i := 3) (v := .slice (some ad) n c) rfl (by kernel_rfl) (by kernel_rfl) (by kernel_rfl) (fun _ _ _ h => h) (Or.inl ⟨by rfl, fun w' hw' => ?ya3⟩) HH.out ?_
      case ya3 => (have cc := HC1.out w' hw'; go_simp; try with_reducible rfl)
      try simp only [List.getElem_toArray, List.getElem_cons_succ, List.getElem_cons_zero, Act.put, List.setIfInBounds_toArray, List.set_cons_zero, List.set_cons_succ]
      refine wpAnyH_take (i := 4) (v := ?va4) rfl (by kernel_rfl) (by kernel_rfl) (by kernel_rfl) (fun _ _ _ h => h) (Or.inl ⟨by rfl, fun w' _ => ?ya4⟩) HH.out ?_
      case ya4 => (go_simp; try with_reducible rfl)
      refine wpAnyH_take (i := 5) (v := ?va5) rfl (by kernel_rfl) (by kernel_rfl) (by kernel_rfl) (fun _ _ _ h => h) (Or.inl ⟨by rfl, fun w' _ => ?ya5⟩) HH.out ?_
      case ya5 => (go_simp; try with_reducible rfl)
      try simp only [List.getElem_toArray, List.getElem_cons_succ, List.getElem_cons_zero, Act.put, List.setIfInBounds_toArray, List.set_cons_zero, List.set_cons_succ]
      refine wpAnyH_take (i := 6) (v := .agg (ndC x)) rfl (by kernel_rfl) (by kernel_rfl) (by kernel_rfl) (fun _ _ _ h => h) (Or.inl ⟨by rfl, fun w' hw' => ?ya6⟩) HH.out ?_
      case ya6 => exact exec_load_at 53 (.tmp 24) rfl (ad.add (i * 34)) rfl (fun j v hj => HCL.out w' hw' j v hj) Tryd.underlying53 rfl HI.out
      refine wpAnyH_take (i := 7) (v := ?va7) rfl (by kernel_rfl) (by kernel_rfl) (by kernel_rfl) (fun _ _ _ h => h) (Or.inl ⟨by rfl, fun w' _ => ?ya7⟩) HH.out ?_
      case ya7 => (go_simp; try with_reducible rfl)
      refine wpAnyH_take (i := 8) (v := ?va8) rfl (by kernel_rfl) (by kernel_rfl) (by kernel_rfl) (fun _ _ _ h => h) (Or.inl ⟨by rfl, fun w' _ => ?ya8⟩) HH.out ?_
      case ya8 => (go_simp; try with_reducible rfl)
      try simp only [List.getElem_toArray, List.getElem_cons_succ, List.getElem_cons_zero, Act.put, List.setIfInBounds_toArray, List.set_cons_zero, List.set_cons_succ]
      have hsd : w2.drew.heap.size = w2.heap.size := rfl
      have hh2 := HH.out
      clear HH
      generalize w2.drew = wd at *
      have HH := Lib.hid hh2
      have HSD := Lib.hid hsd
      clear hh2 hsd
      refine wpAnyH_ready (rs := [9, 10]) (by kernel_rfl) (by simp) (AllReadyH.cons rfl (fun K hK => ?_) (AllReadyH.cons rfl (fun K hK => ?_) AllReadyH.nil))
      · go_simp
        refine (toward_any g m _).mono ?_
        rintro e w5 ⟨p1, p2, rfl, h1, h2, l1, l2, bw⟩
        go_simp
        have hsz5 := bw.size
        refine hK.out _ _ (HH.out.trans (bw.mono HH.out.size)) (fun hh => ?_)
        have HH' := Lib.hid hh
        clear hh hK K HH
        have HH := Lib.hid HH'.out
        clear HH'
        try simp only [List.getElem_toArray, List.getElem_cons_succ, List.getElem_cons_zero, Act.put, List.setIfInBounds_toArray, List.set_cons_zero, List.set_cons_succ]
        refine wpAnyH_ready (rs := [10]) (by kernel_rfl) (by simp) (AllReadyH.cons rfl (fun K hK => ?_) AllReadyH.nil)
        go_simp
        have FX : Blk (World.alloc w5 (.cells cz 53)) w5.heap.size cz 53 := heap_alloc_new _ _
        have F1 : Blk (World.alloc w5 (.cells cz 53)) p1 #[.pointer (some ⟨g, 0, none⟩)] 27 := blk_old1 h1
        have F2 : Blk (World.alloc w5 (.cells cz 53)) p2 #[.int .u64 m] 25 := blk_old1 h2
        have n1 := h1.lt
        have n2 := h2.lt
        have hs2 := HH.out.size
        refine hK.out _ _ (HH.out.alloc HH.out.size _) (fun hh => ?_)
        have HH' := Lib.hid hh
        clear hh hK K HH
        have HH := Lib.hid HH'.out
        clear HH'
        generalize hW6 : World.alloc w5 (.cells cz 53) = w6 at *
        try simp only [List.getElem_toArray, List.getElem_cons_succ, List.getElem_cons_zero, Act.put, List.setIfInBounds_toArray, List.set_cons_zero, List.set_cons_succ]
        refine wpAnyH_ready (rs := [11]) (by kernel_rfl) (by simp) (AllReadyH.cons rfl (fun K hK => ?_) AllReadyH.nil)
        rw [if_pos (by rfl)]
        refine wp_store_row 53 (.tmp 8) (.tmp 25) rfl w5.heap.size (ndC x) rfl rfl 53 cz FX HIC.out (by rw [ndC_size HX.out.2.2.2.2.2, ZH.out]) (ndC_one _) ?_
        have G0 : Blk (World.setRow w6 w5.heap.size (ndC x)) w5.heap.size (ndC x) 53 := setRow_heap _ _ _ _ _ _ FX
        have G1 : Blk (World.setRow w6 w5.heap.size (ndC x)) p1 #[.pointer (some ⟨g, 0, none⟩)] 27 := blk_row F1 (by omega)
        have G2 : Blk (World.setRow w6 w5.heap.size (ndC x)) p2 #[.int .u64 m] 25 := blk_row F2 (by omega)
        refine hK.out _ _ (below_setRow HH.out (by omega) _) (fun hh => ?_)
        have HH' := Lib.hid hh
        clear hh hK K HH
        have HH := Lib.hid HH'.out
        clear HH'
        clear FX F1 F2 hW6
        generalize hW7 : World.setRow w6 w5.heap.size (ndC x) = w7 at *
        clear hW7
        try simp only [List.getElem_toArray, List.getElem_cons_succ, List.getElem_cons_zero, Act.put]
        refine wpAnyH_take (i := 12) (v := ?vz12) rfl (by kernel_rfl) (by kernel_rfl) (by kernel_rfl) (fun _ _ _ h => h) (Or.inl ⟨by rfl, fun w' _ => ?yz12⟩) HH.out ?_
        case yz12 => (go_simp; try with_reducible rfl)
        try simp only [List.getElem_toArray, List.getElem_cons_succ, List.getElem_cons_zero, Act.put, List.setIfInBounds_toArray, List.set_cons_zero, List.set_cons_succ]
        refine wpAnyH_done (by kernel_rfl) ?_ _
        try simp only [List.getElem_toArray, List.getElem_cons_succ, List.getElem_cons_zero, Act.put, List.setIfInBounds_toArray, List.set_cons_zero, List.set_cons_succ]
        obtain ⟨X, hX⟩ : ∃ X, w5.heap.size = X := ⟨_, rfl⟩
        have kb := HH.out
        clear HH
        rw [HSD.out] at l1 l2
        simp only [hX] at *
        exact hG X p1 p2 w7 ⟨G0, G1, G2, by omega, by omega, by omega, by omega, by omega, kb⟩
      · go_simp
        have FX : Blk (World.alloc wd (.cells cz 53)) wd.heap.size cz 53 := heap_alloc_new _ _
        refine hK.out _ _ (HH.out.alloc HH.out.size _) (fun hh => ?_)
        have HH' := Lib.hid hh
        clear hh hK K HH
        have HH := Lib.hid HH'.out
        clear HH'
        have hsa : (World.alloc wd (.cells cz 53)).heap.size = wd.heap.size + 1 := by simp
        generalize hW6 : World.alloc wd (.cells cz 53) = w6 at *
        try simp only [List.getElem_toArray, List.getElem_cons_succ, List.getElem_cons_zero, Act.put, List.setIfInBounds_toArray, List.set_cons_zero, List.set_cons_succ]
        refine wpAnyH_ready (rs := [9]) (by kernel_rfl) (by simp) (AllReadyH.cons rfl (fun K hK => ?_) AllReadyH.nil)
        go_simp
        refine (toward_any g m _).mono ?_
        rintro e w5 ⟨p1, p2, rfl, h1, h2, l1, l2, bw⟩
        go_simp
        have hsz5 := bw.size
        have F0 : Blk w5 wd.heap.size cz 53 := FX.below bw
        refine hK.out _ _ (HH.out.trans (bw.mono HH.out.size)) (fun hh => ?_)
        have HH' := Lib.hid hh
        clear hh hK K HH
        have HH := Lib.hid HH'.out
        clear HH'
        try simp only [List.getElem_toArray, List.getElem_cons_succ, List.getElem_cons_zero, Act.put, List.setIfInBounds_toArray, List.set_cons_zero, List.set_cons_succ]
        refine wpAnyH_ready (rs := [11]) (by kernel_rfl) (by simp) (AllReadyH.cons rfl (fun K hK => ?_) AllReadyH.nil)
        rw [if_pos (by rfl)]
        refine wp_store_row 53 (.tmp 8) (.tmp 25) rfl wd.heap.size (ndC x) rfl rfl 53 cz F0 HIC.out (by rw [ndC_size HX.out.2.2.2.2.2, ZH.out]) (ndC_one _) ?_
        have G0 : Blk (World.setRow w5 wd.heap.size (ndC x)) wd.heap.size (ndC x) 53 := setRow_heap _ _ _ _ _ _ F0
        have G1 : Blk (World.setRow w5 wd.heap.size (ndC x)) p1 #[.pointer (some ⟨g, 0, none⟩)] 27 := blk_row h1 (by omega)
        have G2 : Blk (World.setRow w5 wd.heap.size (ndC x)) p2 #[.int .u64 m] 25 := blk_row h2 (by omega)
        have hwd := HSD.out
        refine hK.out _ _ (below_setRow HH.out (by omega) _) (fun hh => ?_)
        have HH' := Lib.hid hh
        clear hh hK K HH
        have HH := Lib.hid HH'.out
        clear HH'
        clear FX F0 hW6 h1 h2
        generalize hW7 : World.setRow w5 wd.heap.size (ndC x) = w7 at *
        clear hW7
        try simp only [List.getElem_toArray, List.getElem_cons_succ, List.getElem_cons_zero, Act.put]
        refine wpAnyH_take (i := 12) (v := ?vy12) rfl (by kernel_rfl) (by kernel_rfl) (by kernel_rfl) (fun _ _ _ h => h) (Or.inl ⟨by rfl, fun w' _ => ?yy12⟩) HH.out ?_
        case yy12 => (go_simp; try with_reducible rfl)
        try simp only [List.getElem_toArray, List.getElem_cons_succ, List.getElem_cons_zero, Act.put, List.setIfInBounds_toArray, List.set_cons_zero, List.set_cons_succ]
        refine wpAnyH_done (by kernel_rfl) ?_ _
        try simp only [List.getElem_toArray, List.getElem_cons_succ, List.getElem_cons_zero, Act.put, List.setIfInBounds_toArray, List.set_cons_zero, List.set_cons_succ]
        obtain ⟨X, hX⟩ : ∃ X, wd.heap.size = X := ⟨_, rfl⟩
        have kb := HH.out
        clear HH
        simp only [hX] at *
        exact hG X p1 p2 w7 ⟨G0, G1, G2, by omega, by omega, by omega, by omega, by omega, kb⟩
    case rest =>
      rintro X p1 p2 w4 ⟨f0, f1, f2, x1, x2, x3, x4, x5, bw⟩
      have hB4 := HB2.out.trans (bw.mono HB2.out.size)
      have p1' := P1.out.below bw
      have hw0 := P1.out.lt
      have HT4 := Lib.hid (HT2.out.below bw)
      go_wp2_with fail
      go_loopw [] (fun wr => ∃ y, Hid (okH y ∧ goL ci (17 - y.d).toNat y m = goL ci (17 - x.d).toNat x m) ∧ Blk wr X (ndC y) 53 ∧ Blk wr p1 #[.pointer (some ⟨g, 0, none⟩)] 27 ∧ Blk wr p2 #[.int .u64 m] 25 ∧ Blk wr w.heap.size (bva z) 23 ∧ wr.cell? ⟨g, 0, none⟩ = some ci.v ∧ Below w.heap.size w wr) (fun wr => depthAt wr X)
      case atStart => exact ⟨x, ⟨HX.out, rfl⟩, f0, f1, f2, p1', HT4.out.c0, hB4⟩
      case round =>
        clear f0 f1 f2 p1' hB4
        obtain ⟨y, HY, f0, f1, f2, q1, hc0, fb⟩ := hrel
        by_cases h17 : y.d < 17
        · have c0 := ndt_d f0
          obtain ⟨y', hy'⟩ : ∃ y', y' = nearN ci y m := ⟨_, rfl⟩
          obtain ⟨zz, hzz⟩ : ∃ zz, zz = asideN ci y m := ⟨_, rfl⟩
          have hy3 := HY.out.1.2.2.2.2.2
          have hoy : okH y' := by rw [hy', near_step]; exact okH_step (ci := ci) m HY.out.1 h17
          have HIY : Hid ((Tryd.prog.info? 53).map (·.size) = some (ndC y).size) := by rw [ndC_size hy3]; exact info_held
          have HIY' : Hid ((Tryd.prog.info? 53).map (·.size) = some (ndC y').size) := by rw [ndC_size hoy.2.2.2.2.2]; exact info_held
          have HC := Lib.hid hc0
          have HN := Lib.hid hy'
          have HZ := Lib.hid hzz
          have HO := Lib.hid hoy
          have F0 := Lib.hid f0
          have F1 := Lib.hid f1
          have F2 := Lib.hid f2
          have Q1 := Lib.hid q1
          have FB := Lib.hid fb
          have hdd := depthAt_eqH f0
          have HDD := Lib.hid hdd
          clear f0 f1 f2 q1 hc0 fb hoy hy' hzz hdd
          go_wp2_with (refine wpList_load_row rfl 53 (.tmp 8) rfl X rfl 53 (ndC y) (0, 0) _ F0.out Tryd.underlying53 rfl HIY.out ?_)
          refine (spl_any g p1 p2 y m _ HY.out.1 h17 HC.out F1.out F2.out y' zz HN.out HZ.out).mono ?_
          rintro e w5 ⟨rfl, bw⟩
          have D0 := Lib.hid (F0.out.below bw)
          have D1 := Lib.hid (F1.out.below bw)
          have D2 := Lib.hid (F2.out.below bw)
          have DQ := Lib.hid (Q1.out.below bw)
          have DC := Lib.hid ((bw.cell (block_lt_of_cell HC.out)).trans HC.out)
          have DB := Lib.hid (FB.out.trans (bw.mono FB.out.size))
          have hgl : g < w.heap.size := HT.out.blk.lt
          clear bw F0 F1 F2 Q1 HC FB c0
          go_wp2_with (refine wpList_store_row rfl 53 (.tmp 8) (.tmp 36) rfl X (ndC y') rfl rfl 53 (ndC y) D0.out HIY'.out (by rw [ndC_size HO.out.2.2.2.2.2, ndC_size HY.out.1.2.2.2.2.2]) (ndC_one _) ?_
                       generalize hwx : World.setRow _ _ _ = wx
                       have e0 : Blk wx X (ndC y') 53 := by rw [← hwx]; exact setRow_heap _ _ _ _ _ _ D0.out
                       have e1 : Blk wx p1 #[.pointer (some ⟨g, 0, none⟩)] 27 := by rw [← hwx]; exact blk_row D1.out (by omega)
                       have e2 : Blk wx p2 #[.int .u64 m] 25 := by rw [← hwx]; exact blk_row D2.out (by omega)
                       have e3 : Blk wx w.heap.size (bva z) 23 := by rw [← hwx]; exact blk_row DQ.out (by omega)
                       have e4 : Below w.heap.size w wx := by rw [← hwx]; exact below_setRow DB.out (by omega) _
                       have e5 : wx.cell? ⟨g, 0, none⟩ = some ci.v := by rw [← hwx, (below_setRow (B := X) (Below.refl X w5) (Nat.le_refl _) _).cell (by show g < X; omega)]; exact DC.out
                       have E0 := Lib.hid e0
                       have E1 := Lib.hid e1
                       have E2 := Lib.hid e2
                       have E3 := Lib.hid e3
                       have E4 := Lib.hid e4
                       have E5 := Lib.hid e5
                       clear hwx e0 e1 e2 e3 e4 e5 D0 D1 D2 DQ DB DC)
          try simp only [Act.put]
          have hdy := depthAt_eqH E0.out
          have hydn : y'.d = y.d + 1 := by rw [HN.out, near_step, stepK_d]
          have HDY := Lib.hid hdy
          have HYD := Lib.hid hydn
          clear hdy hydn
          go_roundw
          case rel => exact ⟨y', ⟨HO.out, by rw [HYD.out, HN.out, near_step, ← goL_step (ci := ci) y m (by omega)]; exact HY.out.2⟩, E0.out, E1.out, E2.out, E3.out, E5.out, E4.out⟩
          case measure => rw [HDY.out, HDD.out, HYD.out]; omega
        · have c0 := ndt_d f0
          have hge := goL_end (ci := ci) y m h17
          have hy3 := HY.out.1.2.2.2.2.2
          have HY3 : Hid (y.s.length = 32) := hy3
          have HIX : Hid ((Tryd.prog.info? 23).map (·.size) = some (bv y.s).length) := by rw [bv_length, hy3]; exact info_keyL
          have HIB : Hid ((Tryd.prog.info? 23).map (·.size) = some (bva y.s).size) := by rw [bva_size, hy3]; exact info_keyL
          have HG := Lib.hid (show goL ci (17 - x.d).toNat x m = y by rw [← HY.out.2, hge])
          have F0 := Lib.hid f0
          have Q1 := Lib.hid q1
          have FB := Lib.hid fb
          clear hge hy3 f0 f1 f2 q1 hc0 fb
          go_wp2_with (first
            | (refine wpList_load_mid rfl 23 (.tmp 38) rfl X 2 rfl (bv y.s) _ (ndt_s F0.out) Tryd.underlying23 rfl HIX.out ?_
               change wpList _ _ _ _ (Act.put _ _ (.agg (bva y.s))) _)
            | (refine wpList_store_row rfl 23 (.tmp 4) (.tmp 39) rfl w.heap.size (bva y.s) rfl rfl 23 (bva z) Q1.out HIB.out (by rw [bva_size, bva_size, HY3.out, Z3.out]) (bva_one _) ?_
               generalize hwx : World.setRow _ _ _ = wx
               have e1 : Blk wx w.heap.size (bva y.s) 23 := by rw [← hwx]; exact setRow_heap _ _ _ _ _ _ Q1.out
               have eb : Below w.heap.size w wx := by rw [← hwx]; exact below_setRow FB.out (Nat.le_refl _) _
               have R1 := Lib.hid e1
               have RB := Lib.hid eb
               clear hwx e1 eb))
          try simp only [Act.put, List.setIfInBounds_toArray, List.set_cons_zero, List.set_cons_succ]
          rw [HFD.out, keyV_some, HG.out]
          exact bodyPost_ret (v := .tuple #[.agg (bva y.s), .bool true]) (results_ct Tryd.results12 _ _ w.heap.size 23 (bva y.s) _ rfl R1.out Tryd.underlying23 rfl HIB.out) rfl ⟨rfl, RB.out⟩
set_option maxRecDepth 100000 in
theorem tkey_nil (m : Int) (w : World) : Calls Tryd.prog 12 #[.pointer none, .int .u64 m] w (RetB (keyV ci none m) w) := by
  obtain ⟨z, hz0⟩ : ∃ z : List UInt8, z = List.replicate 32 0 := ⟨_, rfl⟩
  have hz : ∀ W, (zeroValue 23).run Tryd.prog W = .ok (.agg (bva z)) W := fun _ => by rw [hz0]; kernel_rfl
  have HBZ := Lib.hid (show ∀ W, (Instr.build 23 #[]).run Tryd.prog W = .ok (.agg (bva z)) W from fun _ => by rw [hz0]; kernel_rfl)
  have Z3 : Hid (z.length = 32) := by show _ = _; rw [hz0]; rfl
  have HKZ : Hid ((Tryd.prog.info? 23).map (·.size) = some (bva z).size) := by rw [bva_size, Z3.out]; exact info_keyL
  have P1 := Lib.hid (show Blk (w.alloc (.cells (bva z) 23)) w.heap.size (bva z) 23 from heap_alloc_new _ _)
  have HB2 := Lib.hid (show Below w.heap.size w (w.alloc (.cells (bva z) 23)) from (Below.refl _ _).alloc (Nat.le_refl _) _)
  have Z0 := Lib.hid hz0
  clear hz0
  go_enter Tryd.func12, Tryd.ntmps12
  go_wp2_with fail
  refine (find_nil m _).mono ?_
  rintro e w2 ⟨rfl, rfl⟩
  go_wp2_with (first
    | (refine wpList_build rfl 23 #[] rfl (HBZ.out _) ?_)
    | (refine wpList_store_row rfl 23 (.tmp 4) (.tmp 18) rfl w.heap.size (bva z) rfl rfl 23 (bva z) P1.out HKZ.out rfl (bva_one _) ?_
       generalize hwx : World.setRow _ _ _ = wx
       have e1 : Blk wx w.heap.size (bva z) 23 := by rw [← hwx]; exact setRow_heap _ _ _ _ _ _ P1.out
       have eb : Below w.heap.size w wx := by rw [← hwx]; exact below_setRow HB2.out (Nat.le_refl _) _
       have Q1 := Lib.hid e1
       have QB := Lib.hid eb
       clear hwx e1 eb))
  try simp only [Act.put, List.setIfInBounds_toArray, List.set_cons_zero, List.set_cons_succ]
  rw [keyV_none, ← Z0.out]
  exact bodyPost_ret (v := .tuple #[.agg (bva z), .bool false]) (results_ct Tryd.results12 _ _ w.heap.size 23 (bva z) _ rfl Q1.out Tryd.underlying23 rfl HKZ.out) rfl ⟨rfl, QB.out⟩
end Go.Proofs.YtippbjpodnnhiaaDoor.Kg
/-
  The laws' example, awake: a tree whose leaf 0 is punctured.
-/
namespace Go.Proofs.YtippbjpodnnhiaaDoor.Kg
open Go.RowKit
variable {ci : Ciph}
attribute [local go_sem ↓] Go.wp_at_zero Go.wp_at_succ
section
variable {w : World} {g : Nat} {l : List Nd} {F : Nat → Prop}
theorem theld_tr (h : Tr ci w g l F) : Calls Tryd.prog 8 #[.pointer (some ⟨g, 0, none⟩)] w (RetRowN 53 34 (nvs l) w) := by
  obtain ⟨A, n, c, ht, _⟩ := h; exact theld_any g A n c l w ht
theorem tcount_tr (h : Tr ci w g l F) : Calls Tryd.prog 11 #[.pointer (some ⟨g, 0, none⟩)] w (RetB (.int .i64 (countL l)) w) := by
  obtain ⟨A, n, c, ht, _⟩ := h; exact tcount_any g A n c l w ht
theorem tkey_tr (h : Tr ci w g l F) (m : Int) : Calls Tryd.prog 12 #[.pointer (some ⟨g, 0, none⟩), .int .u64 m] w (RetB (keyV ci (l.find? (inI · m)) m) w) := by
  obtain ⟨A, n, c, ht, _⟩ := h; exact tkey_any g A n c l m w ht
theorem thas_tr (h : Tr ci w g l F) (m : Int) : Calls Tryd.prog 13 #[.pointer (some ⟨g, 0, none⟩), .int .u64 m] w (RetB (.bool (hasI l m)) w) := by
  obtain ⟨A, n, c, ht, _⟩ := h; exact has_any g A n c l m w ht
theorem but_belowF {w' : World} {N : Nat} (hb : But F w w') (hF : ∀ k, F k → N ≤ k) (hN : N ≤ w.heap.size) : Below N w w' := hb.below (fun k hk h => by have := hF k h; omega) hN
end
end Go.Proofs.YtippbjpodnnhiaaDoor.Kg
/-
  An array of numbers is equal to itself, as Go compares.
-/
namespace Go.Proofs.YtippbjpodnnhiaaDoor
open Go.RowKit
section
variable {P : Program} (w : World)
theorem run_eqItems_self (d : Nat) {e : TypeId} {k : IntKind} (he : P.underlying e = some (.int k)) (xs : Array Value) (hx : ∀ i (h : i < xs.size), ∃ z, xs[i] = .int k z) :
    ∀ is : List Nat, (∀ i ∈ is, i < xs.size) → (Op.eqItems (d + 1) e 1 xs xs is).run P w = .ok true w
  | [], _ => by simp [Op.eqItems]
  | i :: is, h => by
    have hi := h i (by simp)
    obtain ⟨z, hz⟩ := hx i hi
    have hp : (part e xs (i * 1)).run P w = .ok (.int k z) w := run_part_plain w (by simp [Program.plainKey, he]) (by rw [Nat.mul_one, Array.getElem?_eq_getElem hi, hz])
    have hq : (Op.equalIn (d + 1) e (.int k z) (.int k z)).run P w = .ok true w := by rw [run_equalIn_int w d e k k z z he]; simp
    simp only [Op.eqItems, Sem.run_bind, hp, hq, Result.andThen_ok]
    simpa using run_eqItems_self d he xs hx is (fun j hj => h j (by simp [hj]))
theorem run_equal_self {t e n : Nat} {k : IntKind} {i : TypeInfo} (ht : P.underlying t = some (.array n e)) (he : P.underlying e = some (.int k)) (hi : P.info? e = some i) (hc : P.cellsOf e = 1) (xs : Array Value) (hn : xs.size = n)
    (hx : ∀ i (h : i < xs.size), ∃ z, xs[i] = .int k z) : (Op.equalIn 10000 t (.agg xs) (.agg xs)).run P w = .ok true w := by
  rw [show (10000 : Nat) = 9998 + 1 + 1 from rfl, run_equalIn_array w (9998 + 1) xs xs ht hi, hc, run_eqItems_self w 9998 he xs hx (List.range n) (fun j hj => by have := List.mem_range.1 hj; omega)]
end
end Go.Proofs.YtippbjpodnnhiaaDoor
/-
  Whether two arrays of bytes are the same, as Go compares.
-/
namespace Go.Proofs.YtippbjpodnnhiaaDoor
open Go.RowKit
section
variable {P : Program} (w : World)
theorem run_eqItems_bytes (d : Nat) {e : TypeId} (he : P.underlying e = some (.int .u8)) (a b : List UInt8) :
    ∀ is : List Nat, (∀ i ∈ is, i < a.length ∧ i < b.length) → (Op.eqItems (d + 1) e 1 (bva a) (bva b) is).run P w = .ok (is.all fun i => a.getD i 0 == b.getD i 0) w
  | [], _ => by simp [Op.eqItems]
  | i :: is, h => by
    obtain ⟨h1, h2⟩ := h i (by simp)
    have ih := run_eqItems_bytes d he a b is (fun j hj => h j (by simp [hj]))
    have hp : (part e (bva a) (i * 1)).run P w = .ok (.int .u8 ((a.getD i 0).toNat : Int)) w := run_part_plain w (by simp [Program.plainKey, he]) (by rw [Nat.mul_one]; exact bva_get h1)
    have hq : (part e (bva b) (i * 1)).run P w = .ok (.int .u8 ((b.getD i 0).toNat : Int)) w := run_part_plain w (by simp [Program.plainKey, he]) (by rw [Nat.mul_one]; exact bva_get h2)
    have hr : (Op.equalIn (d + 1) e (.int .u8 ((a.getD i 0).toNat : Int)) (.int .u8 ((b.getD i 0).toNat : Int))).run P w = .ok (a.getD i 0 == b.getD i 0) w := by
      rw [run_equalIn_int w d e .u8 .u8 _ _ he]
      congr 1
      by_cases hab : a.getD i 0 = b.getD i 0
      · rw [hab]; simp
      · have : ¬ (((a.getD i 0).toNat : Int) = ((b.getD i 0).toNat : Int)) := fun h => hab (UInt8.toNat_inj.1 (by omega))
        rw [beq_eq_false_iff_ne.2 hab]
        exact (by simpa using this)
    simp only [Op.eqItems, Sem.run_bind, hp, hq, hr, Result.andThen_ok]
    rw [List.all_cons]
    cases a.getD i 0 == b.getD i 0
    · simp
    · simpa using ih
theorem all_get (a b : List UInt8) (h : a.length = b.length) : ((List.range a.length).all fun i => a.getD i 0 == b.getD i 0) = decide (a = b) := by
  rw [Bool.eq_iff_iff, List.all_eq_true, decide_eq_true_iff]
  constructor
  · intro hh
    refine List.ext_getElem h fun i h1 h2 => ?_
    have := hh i (List.mem_range.2 h1)
    rw [beq_iff_eq, List.getD_eq_getElem?_getD, List.getD_eq_getElem?_getD, List.getElem?_eq_getElem h1, List.getElem?_eq_getElem h2] at this
    exact this
  · rintro rfl i _
    simp
theorem run_equal_bytes {t e n : Nat} {i : TypeInfo} (ht : P.underlying t = some (.array n e)) (he : P.underlying e = some (.int .u8)) (hi : P.info? e = some i) (hc : P.cellsOf e = 1) (a b : List UInt8) (ha : a.length = n) (hb : b.length = n) :
    (Op.equalIn 10000 t (.agg (bva a)) (.agg (bva b))).run P w = .ok (decide (a = b)) w := by
  rw [show (10000 : Nat) = 9998 + 1 + 1 from rfl, run_equalIn_array w (9998 + 1) (bva a) (bva b) ht hi, hc, run_eqItems_bytes w 9998 he a b (List.range n) (fun j hj => by have := List.mem_range.1 hj; omega), ← ha, all_get a b (by omega)]
end
end Go.Proofs.YtippbjpodnnhiaaDoor
/-
  How a []uint64 that came in is opened: its numbers, as a list.
-/
namespace Go.Proofs.YtippbjpodnnhiaaDoor
open Go.RowKit Go.ChangeShapes Go.WideShapes
/-- The cells of a row of 64-bit numbers without a sign. -/
def iv64 (l : List Int) : List Value := l.map (Value.int .u64)
theorem iv64_length (l : List Int) : (iv64 l).length = l.length := by simp [iv64]
theorem iv64_get {l : List Int} {k : Nat} (hk : k < l.length) : (iv64 l)[k]? = some (.int .u64 (l.getD k 0)) := by
  simp [iv64, hk]
theorem rd_u64 {B : Nat} {w : World} {A : Option Addr} {l : List Int} (h : Rd B w A (iv64 l)) {k : Nat} (hk : k < l.length) : ∃ ad, A = some ad ∧ ad.block < B ∧ w.cell? (ad.add k) = some (.int .u64 (l.getD k 0)) :=
  h k _ (iv64_get hk)
section
variable {H : Type} {enc : TypeId × Value → H} {P : Program} {w : World} {base : Nat} {spare : Nat → Bool} {held : Bool}
theorem open_u64s {t e : Nat} {a : Option Addr} {len cap : Nat} {d : DataW H} {ps : List MemPlace} (ht : P.underlying t = some (.slice e)) (he : P.underlying e = some (.int .u64)) (hc : P.cellsOf e = 1)
    (h : DataW.Trod enc P w base spare held t (.slice a len cap) d ps) : ∃ l : List Int, l.length = len ∧ len ≤ cap ∧ cap ≤ maxLen ∧ Rd w.heap.size w a (iv64 l) ∧ ∀ z ∈ l, 0 ≤ z ∧ z ≤ 18446744073709551615 := by
  obtain ⟨fuel, hf⟩ := h
  have hf' : DataW.trod enc P w base spare held fuel t [Value.slice a len cap] = some (d, ps) := hf
  rcases open_ints ht he hc hf' with ⟨hcs, _⟩ | ⟨a', len', cap', zs, hcs, _, hl, hm, hz, _, hcell, hwz⟩
  · simp only [List.cons.injEq, and_true] at hcs
    injection hcs with e1 e2 e3
    subst e1; subst e2; subst e3
    exact ⟨[], rfl, Nat.le_refl _, Nat.zero_le _, Rd.none, fun z hz => by simp at hz⟩
  · simp only [List.cons.injEq, and_true] at hcs
    injection hcs with e1 e2 e3
    subst e1; subst e2; subst e3
    have hlz : len ≤ zs.length := by rw [hz]; split <;> omega
    refine ⟨zs.take len, by rw [List.length_take]; omega, hl, hm, fun k u hu => ?_, fun z hz => bounds_u64 (hwz z (List.mem_of_mem_take hz))⟩
    have hk : k < len := by
      have := (List.getElem?_eq_some_iff.1 hu).1
      rw [iv64_length, List.length_take] at this; omega
    have hkz : k < zs.length := by omega
    have hg := hcell k hkz
    have hb := World.block_lt_of_cell? _ _ hg
    rw [add_block] at hb
    refine ⟨a', rfl, hb, ?_⟩
    have e2 : (iv64 (zs.take len))[k]? = some (.int .u64 zs[k]) := by simp [iv64, hk, hkz]
    have hd : zs.getD k 0 = zs[k] := by simp [List.getD, hkz]
    rw [hg, hd, ← hu, e2]
end
end Go.Proofs.YtippbjpodnnhiaaDoor
/-
  What the laws of the tree have in common: punctures one behind the other, a key with its sign.
-/
namespace Go.Proofs.YtippbjpodnnhiaaDoor.Kg
open Go.RowKit
variable {ci : Ciph}
attribute [local go_sem ↓] Go.wp_at_zero Go.wp_at_succ
/-- Punctures, one behind the other. -/
def punAll (ci : Ciph) (x : List Nd) (ms : List Int) : List Nd := ms.foldl (punL ci) x
theorem punAll_snoc (x : List Nd) (ms : List Int) {k : Nat} (h : k < ms.length) : punAll ci x (ms.take (k + 1)) = punL ci (punAll ci x (ms.take k)) (ms.getD k 0) := by
  rw [List.take_succ_eq_append_getElem h, punAll, List.foldl_append]
  simp [punAll, h]
theorem punAll_ok {x : List Nd} (hx : okS 0 x) : ∀ (ms : List Int), okS 0 (punAll ci x ms)
  | [] => hx
  | m :: ms => punAll_ok (punL_ok (ci := ci) m hx) ms
/-- A leaf's key, and whether there is one. -/
def keyK (ci : Ciph) (l : List Nd) (m : Int) : List UInt8 := match l.find? (inI · m) with | some x => (goL ci (17 - x.d).toNat x m).s | none => List.replicate 32 0
theorem keyV_form (l : List Nd) (m : Int) : keyV ci (l.find? (inI · m)) m = .tuple #[.agg (bva (keyK ci l m)), .bool (hasI l m)] := by
  unfold keyK
  cases h : l.find? (inI · m) with
  | none =>
    have : hasI l m = false := by rw [hasI, List.any_eq_false]; exact fun x hx => List.find?_eq_none.1 h x hx
    rw [this, keyV_none]
  | some x =>
    have : hasI l m = true := by rw [hasI, List.any_eq_true]; exact ⟨x, List.mem_of_find?_eq_some h, by simpa using List.find?_some h⟩
    rw [this, keyV_some]
theorem keyK_length {l : List Nd} (h : ∀ x ∈ l, x.s.length = 32) (m : Int) : (keyK ci l m).length = 32 := by
  unfold keyK
  split
  · rename_i x hx; exact goL_s (ci := ci) _ _ _ (h x (List.mem_of_find?_eq_some hx))
  · rfl
theorem eq_key (a b : List UInt8) (ha : a.length = 32) (hb : b.length = 32) (w : World) : (Op.equalIn 10000 23 (.agg (bva a)) (.agg (bva b))).run Tryd.prog w = .ok (decide (a = b)) w := by
  obtain ⟨i, hi⟩ := Option.isSome_iff_exists.1 (show (Tryd.prog.info? 5).isSome = true by kernel_rfl)
  exact run_equal_bytes w Tryd.underlying23 Tryd.underlying5 hi (by kernel_rfl) a b ha hb
end Go.Proofs.YtippbjpodnnhiaaDoor.Kg
