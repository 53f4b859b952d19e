/-
  Texts of this seat, one behind the other: KcChunk, KcKDec.
-/
import Derived.RangeFuncNested
import Derived.RangeFuncBound
import Derived.RangeFuncCalls
import Derived.RangeFuncLeaves
import Derived.RangeFuncBox
import Derived.Shelf.Abstract
import Derived.Shelf.RegionOpen
import Derived.WalkKit
import Derived.OwnWalkIn
import Derived.TacticsInMore
import Derived.LoopNIn
import Derived.LoopIn
import Derived.Sort.QuietIn
import Derived.Great.BuildSlice
import Derived.Test.YtippbjpodnnhiaaDoorDk10
/-
  The contract of slices.Chunk at bytes in pieces of 36: the iterator gives the pieces one by one.
-/
namespace Go.Proofs.YtippbjpodnnhiaaDoor.Kc
open Go.RowKit Go.Shelf
attribute [local go_sem] Oper.semAt_some
/-- Two boxes stay as they are. -/
def KpB (Bs Bc : Nat) (W W' : World) : Prop := W'.heap[Bs]? = W.heap[Bs]? ∧ W'.heap[Bc]? = W.heap[Bc]?
theorem KpB.trans {Bs Bc : Nat} {A B C : World} (h : KpB Bs Bc A B) (h' : KpB Bs Bc B C) : KpB Bs Bc A C := ⟨h'.1.trans h.1, h'.2.trans h.2⟩
theorem KpB.cs {Bs Bc : Nat} {A B : World} {v : Value} (h : KpB Bs Bc A B) (hc : A.cell? ⟨Bs, 0, none⟩ = some v) : B.cell? ⟨Bs, 0, none⟩ = some v := (World.cell?_of_block (a := ⟨Bs, 0, none⟩) h.1).trans hc
theorem KpB.cc {Bs Bc : Nat} {A B : World} {v : Value} (h : KpB Bs Bc A B) (hc : A.cell? ⟨Bc, 0, none⟩ = some v) : B.cell? ⟨Bc, 0, none⟩ = some v := (World.cell?_of_block (a := ⟨Bc, 0, none⟩) h.2).trans hc
theorem kpB_b {Bs Bc : Nat} {w : World} (hs : Bs < w.heap.size) (hc : Bc < w.heap.size) (W : World) (l : Nat) (o o' : Obj) (hl : w.heap.size ≤ l) (_ : W.heap[l]? = some o) (_ : o.isCells = false) (_ : o.isWalk = false) : KpB Bs Bc W (W.putObj l o') :=
  ⟨World.putObj_heap_other (by omega), World.putObj_heap_other (by omega)⟩
/-- The piece number k. -/
def pieceV (ad : Addr) (k : Nat) : Value := .slice (some (ad.add (36 * k))) 36 36
theorem grownBy_drewN (w : World) (n : Nat) : w.grownBy (w.drewN n) none := ⟨rfl, rfl, rfl, Nat.le_refl _, fun _ _ _ => rfl⟩
def firstK (m k : Nat) : List (Fin m) := (List.finRange m).take k
theorem firstK_succ {m k : Nat} (h : k < m) : firstK m (k + 1) = firstK m k ++ [⟨k, h⟩] := by
  unfold firstK
  rw [List.take_succ_eq_append_getElem (by simpa using h)]
  simp
theorem firstK_length {m k : Nat} (h : k ≤ m) : (firstK m k).length = k := by simp [firstK, h]
theorem firstK_all (m : Nat) : firstK m m = List.finRange m := by unfold firstK; exact List.take_of_length_le (by simp)
set_option maxRecDepth 100000 in
set_option maxHeartbeats 2000000 in
theorem chunk1_in (n : Nat) (hn : 1 ≤ n) (l Bs Bc : Nat) (ad : Addr) (m cap : Nat) (hm : m ≤ 100000) (hcap : 36 * m ≤ cap) (J Jx : List (Fin m) → World → Prop) (W : World) (hJ : AbidesFrom W.heap.size J)
    (hY : ∀ pre x W, J pre W → pre.length < m → YieldAt Fence.wide (n - 1) Tryd.prog l #[pieceV ad x.1] W fun e W' =>
      (e = .returned (.bool true) ∧ J (pre ++ [x]) W' ∧ KpB Bs Bc W W') ∨ (e = .returned (.bool false) ∧ Jx (pre ++ [x]) W'))
    (hBs : W.cell? ⟨Bs, 0, none⟩ = some (.slice (some ad) (36 * m) cap)) (hBc : W.cell? ⟨Bc, 0, none⟩ = some (.int .i64 36)) (h0 : J [] W) :
    CallsIn Fence.wide n Tryd.prog 34 #[.func (.yield l) #[] #[], .pointer (some ⟨Bs, 0, none⟩), .pointer (some ⟨Bc, 0, none⟩)] W fun e W' => (∃ v, e = .returned v) ∧
      ((∃ ys, ys = List.finRange m ∧ J ys W') ∨ (∃ pre, (∃ k, k ≤ m ∧ pre = firstK m k) ∧ Jx pre W')) := by
  refine callsIn_of_wp Tryd.func34 rfl trivial ?_ rfl
  simp only [Tryd.ntmps34, List.size_toArray, List.length_cons, List.length_nil, Nat.reduceAdd, Nat.reduceSub, Array.replicate_succ, Array.replicate_zero, List.push_toArray, List.append_toArray, List.nil_append, List.cons_append]
  gi_wp2
  gi_loopw [4, 5] (fun i _ wr => ∃ k : Nat, k ≤ m ∧ i = .int .i64 ((36 * k : Nat) : Int) ∧ J (firstK m k) wr ∧ KpB Bs Bc W wr)
    (fun i _ _ => 36 * m - (intOf i).toNat)
  case atStart => exact ⟨0, Nat.zero_le _, rfl, h0, rfl, rfl⟩
  case round =>
    obtain ⟨k, hk, rfl, hJs, hnx⟩ := hrel
    have hc1 : wr.cell? ⟨Bs, 0, none⟩ = some (.slice (some ad) (36 * m) cap) := hnx.cs hBs
    have hc2 : wr.cell? ⟨Bc, 0, none⟩ = some (.int .i64 36) := hnx.cc hBc
    obtain ⟨i, hi⟩ : ∃ i, i = 36 * k := ⟨_, rfl⟩
    obtain ⟨L, hL⟩ : ∃ L, L = 36 * m := ⟨_, rfl⟩
    rw [← hi]
    rw [← hL] at hc1
    by_cases hlt : k < m
    · have hlen := firstK_length hk
      obtain ⟨j, hj⟩ : ∃ j, j = i + 36 := ⟨_, rfl⟩
      have i0 : (0 : Int) ≤ (i : Int) := by omega
      have i1 : (i : Int) < (L : Int) := by omega
      have i2 : (i : Int) ≤ (L : Int) := by omega
      have hci : ¬ cap = i := by omega
      have hmn : ¬ ((L - i : Nat) : Int) < 36 := by omega
      have J1 := Lib.hid (show wrap64 ((i : Int) + 36) = (j : Int) by rw [IntWalk.wrap64_in _ (by omega)]; omega)
      have J2 := Lib.hid (show (i : Int) ≤ (j : Int) by omega)
      have J3 := Lib.hid (show (j : Int) ≤ (L : Int) by omega)
      have J4 := Lib.hid (show (j : Int) ≤ (cap : Int) by omega)
      have J5 := Lib.hid (show j - i = 36 by omega)
      have J6 := Lib.hid (show 36 * (k + 1) = j by omega)
      have HI := Lib.hid hi
      have HL := Lib.hid hL
      have HM := Lib.hid hm
      have HC := Lib.hid hcap
      have HLT := Lib.hid hlt
      clear hi hL hj hm hcap
      have hmx : Tryd.prog.follows .mixedOrders = true := by kernel_rfl
      gi_wp2
      gi_quiet (fail)
      obtain ⟨fn, tmps, assign, body, hy, hR⟩ := hY _ ⟨k, hlt⟩ (wr.drewN nq) (hJ _ _ _ none hJs (grownBy_drewN wr nq) (fun r h => by cases h)) (by rw [hlen]; exact hlt)
      dsimp only [pieceV] at hy
      rw [← HI.out] at hy
      have j1 := J1.out
      have j2 := J2.out
      have j3 := J3.out
      have j4 := J4.out
      have j5 := J5.out
      clear hmn hci hlen i2 hk
      gi_wp2
      refine hR.mono ?_
      rintro e W3 (⟨rfl, hJ3, hk3⟩ | ⟨rfl, hJx3⟩)
      · have hnx3 : KpB Bs Bc W W3 := KpB.trans (B := wr.drewN nq) hnx hk3
        have hc3 : W3.cell? ⟨Bc, 0, none⟩ = some (.int .i64 36) := hnx3.cc hBc
        gi_wp2
        go_roundw
        case rel => exact ⟨k + 1, HLT.out, by rw [J6.out, ← j1], by rw [firstK_succ HLT.out]; exact hJ3, hnx3⟩
        case measure => rw [j1]; show 36 * m - ((j : Int)).toNat < 36 * m - ((i : Int)).toNat; have := HI.out; have := J6.out; have := HLT.out; omega
      · gi_wp2
        refine bodyPost_ret (results_none rfl _ _ _) rfl ?_
        exact ⟨⟨_, rfl⟩, .inr ⟨_, ⟨k + 1, HLT.out, (firstK_succ HLT.out).symm⟩, hJx3⟩⟩
    · obtain rfl : k = m := by omega
      have i1 : ¬ (i : Int) < (L : Int) := by omega
      rw [firstK_all] at hJs
      clear hi hL
      gi_wp2
      go_end0
      first | exact ⟨⟨_, rfl⟩, .inl ⟨_, rfl, hJs⟩⟩ | exact ⟨⟨_, rfl⟩, .inl hJs⟩
set_option maxRecDepth 100000 in
set_option maxHeartbeats 1000000 in
theorem chunk_any (A : Option Addr) (n c : Nat) (w : World) : Calls Tryd.prog 23 #[.slice A n c, .int .i64 36] w (fun e w' => e = .returned (.func (.func 34) #[] #[.pointer (some ⟨w.heap.size, 0, none⟩), .pointer (some ⟨w.heap.size + 1, 0, none⟩)]) ∧
    Below w.heap.size w w' ∧ w'.heap.size = w.heap.size + 2 ∧ w'.cell? ⟨w.heap.size, 0, none⟩ = some (.slice A n c) ∧ w'.cell? ⟨w.heap.size + 1, 0, none⟩ = some (.int .i64 36)) := by
  have b1 := Boxed.new w 34 (.slice A n c)
  have b2 := Boxed.new (w.alloc (.cells #[.slice A n c] 34)) 3 (.int .i64 36)
  have b1' := b1.alloc (.cells #[.int .i64 36] 3)
  rw [World.size_alloc] at b2
  have hb : Below w.heap.size w ((w.alloc (.cells #[.slice A n c] 34)).alloc (.cells #[.int .i64 36] 3)) := ((Below.refl _ w).alloc (Nat.le_refl _) _).alloc (by simp) _
  have c2 := b2.cell
  have H := Lib.hid (show _ ∧ _ ∧ _ from ⟨hb, b1'.cell, b2.cell⟩)
  clear b1 b2 b1' hb
  go_enter Tryd.func23, Tryd.ntmps23
  go_wp2
  go_ret
  exact ⟨rfl, H.out.1, by simp, H.out.2.1, H.out.2.2⟩
theorem chunk_stops (n : Nat) (hn : 1 ≤ n) (Bs Bc : Nat) (ad : Addr) (m cap : Nat) (hm : m ≤ 100000) (hcap : 36 * m ≤ cap) (w : World) (hs : Bs < w.heap.size) (hb : Bc < w.heap.size)
    (hBs : w.cell? ⟨Bs, 0, none⟩ = some (.slice (some ad) (36 * m) cap)) (hBc : w.cell? ⟨Bc, 0, none⟩ = some (.int .i64 36)) :
    SeqStopsK Fence.wide n Tryd.prog 34 #[.pointer (some ⟨Bs, 0, none⟩), .pointer (some ⟨Bc, 0, none⟩)] (fun x : Fin m => #[pieceV ad x.1]) (KpB Bs Bc) (fun ys => ys = List.finRange m) (fun pre => ∃ k, k ≤ m ∧ pre = firstK m k) m w := fun l J Jx W hW hJ _ hY h0 =>
  chunk1_in n hn l Bs Bc ad m cap hm hcap J Jx W hJ hY ((hW.cell (p := ⟨Bs, 0, none⟩) hs).trans hBs) ((hW.cell (p := ⟨Bc, 0, none⟩) hb).trans hBc) h0
end Go.Proofs.YtippbjpodnnhiaaDoor.Kc
/-
  The contract of the code's Decode: the nodes of bytes, or that they are none's.
-/
namespace Go.Proofs.YtippbjpodnnhiaaDoor.Kc
open Go.RowKit Go.Shelf Kg
attribute [local go_sem] Oper.semAt_some
/-- What the code's Decode tells. -/
def RetKDec (b : List UInt8) (w : World) (e : Ending) (w' : World) : Prop :=
  Below w.heap.size w w' ∧ ((okY b ∧ ∃ A m c, e = .returned (.tuple #[.slice A m c, .int .i64 0]) ∧ w'.ownsRow w.heap.size 53 34 (.slice A m c) m (nvs (decN (manyY b) (b.drop 2)))) ∨
    (¬ okY b ∧ e = .returned (.tuple #[.slice none 0 0, .int .i64 3])))
theorem wpIn_val {l n : Nat} {P : Program} {o : Oper} {a : Act} {w w' : World} {K : Act → World → Prop} {Q : Exit → Act → World → Prop} {v : Value} (hop : ∀ c, o.op ≠ .defer c)
    (h : (execOp a.eval o).run P w = .ok (.value v) w') (hk : K (a.put o.dst v) w') : Oper.wpIn (Fence.wide.inRound l) n P o a w K Q :=
  ⟨fun _ _ => trivial, by rw [Fence.inRound_round, Oper.semAt_some l _ _ hop, h]; exact hk⟩
theorem exec_buildSlice {P : Program} {w : World} {r : Operand → Value} {o : Oper} {t e : TypeId} {len : Nat} {parts : Array (Nat × Operand)} (ho : o.op = .buildSlice t len parts) {cells : Array Value} {ie : TypeInfo} {z : Value}
    (hu : P.underlying t = some (.slice e)) (hie : P.info? e = some ie) (hz : ie.zero = some z) (hsmall : ¬ len * ie.size > 2 ^ 24) (hpos : ¬ len * ie.size = 0)
    (hf : Instr.fill (fun i => some (i * ie.size, ie.size)) ((Array.range (len * ie.size)).map (z.cells[· % z.cells.size]!)) (parts.map fun (i, x) => (i, r x)).toList = some cells) :
    (execOp r o).run P w = .ok (.value (.slice (some ⟨w.heap.size, 0, none⟩) len len)) (w.alloc (.cells cells e)) := by
  unfold execOp
  simp only [ho, Sem.run_bind, Sem.run_pure, run_buildSlice w t e len _ cells ie z hu hie hz hsmall hpos hf, Result.andThen_ok]
theorem exec_appN {P : Program} {w : World} {r : Operand → Value} {o : Oper} (s x : Operand) (t : TypeId) (ho : o.op = .call { callee := .builtin .append, args := #[s, x], argTypes := #[t, t] })
    {e : TypeId} {z : Value} {size bytes : Nat} (E : EltN P t e z size bytes) {base n : Nat} {v : Value} {xs : List Value} (hs : r s = v) (hown : w.ownsRow base e size v n xs)
    {B m c : Nat} {A : Option Addr} {news : List Value} (hx : r x = .slice A m c) (hr : Rd B w A news) (hm : news.length = m * size) (h1 : ∀ u ∈ news, u.oneCell' = true)
    (hsz : (n + m) * bytes ≤ 140737488355328) (hbase : base ≤ w.heap.size) :
    ∃ A' c' w', (execOp r o).run P w = .ok (.value (.slice A' (n + m) c')) w' ∧ w'.ownsRow base e size (.slice A' (n + m) c') (n + m) (xs ++ news) ∧ w.grownBy w' v.ownBlock := by
  obtain ⟨A', c', w', hrun, h2, h3, _⟩ := run_appN w (ty := o.type) (c := c) E hown hr hm h1 hsz hbase
  refine ⟨A', c', w', ?_, h2, h3⟩
  unfold execOp
  simp only [ho, resolve, invoke, builtin, Sem.run_bind, Sem.run_pure, Result.andThen_ok, List.map_toArray, List.map_cons, List.map_nil, hs, hx, hrun]
theorem wpIn_appN {l k : Nat} {P : Program} {o : Oper} {a : Act} {w : World} {K : Act → World → Prop} {Q : Exit → Act → World → Prop} (s x : Operand) (t : TypeId) (ho : o.op = .call { callee := .builtin .append, args := #[s, x], argTypes := #[t, t] })
    {e : TypeId} {z : Value} {size bytes : Nat} (E : EltN P t e z size bytes) {base n : Nat} {v : Value} {xs : List Value} (hs : a.eval s = v) (hown : w.ownsRow base e size v n xs)
    {B m c : Nat} {A : Option Addr} {news : List Value} (hx : a.eval x = .slice A m c) (hr : Rd B w A news) (hm : news.length = m * size) (h1 : ∀ u ∈ news, u.oneCell' = true)
    (hsz : (n + m) * bytes ≤ 140737488355328) (hbase : base ≤ w.heap.size)
    (h : ∀ A' c' w', w'.ownsRow base e size (.slice A' (n + m) c') (n + m) (xs ++ news) → w.grownBy w' v.ownBlock → K (a.put o.dst (.slice A' (n + m) c')) w') : Oper.wpIn (Fence.wide.inRound l) k P o a w K Q := by
  obtain ⟨A', c', w', hrun, h2, h3⟩ := exec_appN (r := a.eval) s x t ho E hs hown hx hr hm h1 hsz hbase
  exact wpIn_val (fun _ hd => by rw [ho] at hd; cases hd) hrun (h A' c' w' h2 h3)
/-- What stands behind a round: the box holds the longer row. -/
theorem body_done {W X X4 : World} {b0 n0 m : Nat} {v v' : Value} {k : Nat} {xs ys : List Value} (hv : Boxed W b0 38 v) (_hrow : W.ownsRow n0 53 34 v k xs) (hb : Below W.heap.size W X) (hvX : Boxed X b0 38 v) (hrX : X.ownsRow n0 53 34 v k xs)
    (ho : X4.ownsRow n0 53 34 v' m ys) (hg : X.grownBy X4 v.ownBlock) :
    Boxed X4 b0 38 v ∧ Boxed (X4.setCell ⟨b0, 0, none⟩ v') b0 38 v' ∧ (X4.setCell ⟨b0, 0, none⟩ v').ownsRow n0 53 34 v' m ys ∧
      KeepsOthers W (X4.setCell ⟨b0, 0, none⟩ v') ∧ (∀ k, k < W.heap.size → k < n0 → k ≠ b0 → (X4.setCell ⟨b0, 0, none⟩ v').heap[k]? = W.heap[k]?) ∧ W.heap.size ≤ (X4.setCell ⟨b0, 0, none⟩ v').heap.size ∧
      (X4.setCell ⟨b0, 0, none⟩ v').os = W.os ∧ (X4.setCell ⟨b0, 0, none⟩ v').tape = W.tape ∧ (X4.setCell ⟨b0, 0, none⟩ v').output = W.output := by
  have hte : 38 ≠ 53 := by decide
  have hv4 : Boxed X4 b0 38 v := hvX.kept hg (hvX.not_row hte hrX)
  have hs := grownBy_setCell' X4 b0 v'
  have hsize : W.heap.size ≤ (X4.setCell ⟨b0, 0, none⟩ v').heap.size := Nat.le_trans hb.size (Nat.le_trans hg.size hs.size)
  refine ⟨hv4, hv4.set v', ho.kept hs (.inr (hv4.not_row hte ho).symm), ⟨hsize, fun j o hj hoc => ?_⟩, fun j hj hn hne => ?_, hsize, hs.os.trans (hg.os.trans hb.os), hs.tape.trans (hg.tape.trans hb.tape), hs.output.trans (hg.output.trans hb.output)⟩
  · have hlt : j < W.heap.size := (Array.getElem?_eq_some_iff.1 hj).1
    have hjX : X.heap[j]? = some o := (hb.block j hlt).trans hj
    have h1 : some j ≠ v.ownBlock := fun e => by
      rcases hrX.2 with ⟨rfl, _⟩ | ⟨g, cap, cur, rfl, _, hgb, _⟩
      · cases e
      · obtain rfl : j = g := by simpa [Value.ownBlock] using e
        rw [hgb] at hjX; cases hjX; cases hoc
    have h2 : j ≠ b0 := fun e => by subst e; rw [show W.heap[j]? = _ from hv] at hj; cases hj; cases hoc
    exact ((hs.block j (Nat.lt_of_lt_of_le hlt (Nat.le_trans hb.size hg.size)) (fun e => h2 (by cases e; rfl))).trans (hg.block j (Nat.lt_of_lt_of_le hlt hb.size) h1)).trans hjX
  · have h1 : some j ≠ v.ownBlock := fun e => by
      rcases hrX.2 with ⟨rfl, _⟩ | ⟨g, cap, cur, rfl, hg0, _⟩
      · cases e
      · obtain rfl : j = g := by simpa [Value.ownBlock] using e
        omega
    exact ((hs.block j (Nat.lt_of_lt_of_le hj (Nat.le_trans hb.size hg.size)) (fun e => hne (by cases e; rfl))).trans (hg.block j (Nat.lt_of_lt_of_le hj hb.size) h1)).trans (hb.block j hj)
/-- The node number k. -/
def ndK (b : List UInt8) (k : Nat) : Nd := ndY (((b.drop 2).drop (36 * k)).take 36)
theorem ndY_take (l : List UInt8) : ndY (l.take 36) = ndY l := by
  have e : ∀ j, j < 36 → (l.take 36).getD j 0 = l.getD j 0 := fun j hj => by
    rw [List.getD_eq_getElem?_getD, List.getD_eq_getElem?_getD, List.getElem?_take, if_pos hj]
  have e4 : ((l.take 36).drop 4).take 32 = (l.drop 4).take 32 := by
    rw [List.drop_take, List.take_take]; rfl
  unfold ndY
  rw [e 0 (by omega), e 1 (by omega), e 2 (by omega), e 3 (by omega), e4]
theorem all_nodes (b : List UInt8) (m : Nat) : (List.finRange m).map (fun x => ndK b x.1) = decN m (b.drop 2) := by
  apply List.ext_getElem?
  intro k
  by_cases hk : k < m
  · rw [decN_get m _ hk]
    have : k < (List.finRange m).length := by simpa using hk
    simp [List.getElem?_eq_getElem this, ndK, ndY_take]
  · rw [List.getElem?_eq_none (by simpa using hk), List.getElem?_eq_none (by rw [decN_length]; omega)]
set_option maxRecDepth 100000 in
set_option maxHeartbeats 4000000 in
theorem kdec_any {B : Nat} (A : Option Addr) (n c : Nat) (b : List UInt8) (w : World) (hl : b.length = n) (hc : n ≤ c) (hB : B ≤ w.heap.size) (hr : Rd B w A (bv b)) (hn : n ≤ 3000000) :
    Calls Tryd.prog 9 #[.slice A n c] w (RetKDec b w) := by
  have HW := whole_any A n c b w hl hc hr hn
  refine (callsIn_wide (n := 4)).1 ?_
  refine callsIn_of_wp_marks Tryd.func9 rfl trivial ?_ rfl
  simp only [Tryd.ntmps9, List.size_toArray, List.length_cons, List.length_nil, Nat.reduceAdd, Nat.reduceSub, Array.replicate_succ, Array.replicate_zero, List.push_toArray, List.append_toArray, List.nil_append, List.cons_append]
  by_cases hwh : 2 ≤ b.length ∧ b.length = 2 + 36 * manyY b
  · have hA : ∃ ad, A = some ad := by
      obtain ⟨ad, hA, _⟩ := hr 0 _ (bv_get (show 0 < b.length by omega))
      exact ⟨ad, hA⟩
    obtain ⟨ad, rfl⟩ := hA
    obtain ⟨m, hm⟩ : ∃ m, m = manyY b := ⟨_, rfl⟩
    obtain ⟨ad2, had2⟩ : ∃ ad2 : Addr, (if c = 2 then some ad else some (⟨ad.block, ad.off + 2, none⟩ : Addr)) = some ad2 := by split <;> exact ⟨_, rfl⟩
    have hnm : n - 2 = 36 * m := by rw [hm]; omega
    have PCC := Lib.hid (show ∀ W', Below w.heap.size w W' → ∀ k, k < m → Rd w.heap.size W' (some (ad2.add (36 * k))) (bv (((b.drop 2).drop (36 * k)).take 36)) from fun W' hW' k hk => by
      have hc2 : ¬ c = 2 := by omega
      rw [if_neg hc2] at had2
      injection had2 with had2
      have h := rd_part ((hr.more hB).below hW') (2 + 36 * k) 36
      rw [← add_twice, add_pos ad (show 2 ≠ 0 by omega), had2, ← List.drop_drop] at h
      exact h)
    have PLL := Lib.hid (show ∀ k, k < m → (((b.drop 2).drop (36 * k)).take 36).length = 36 from fun k hk => by
      rw [List.length_take, List.length_drop, List.length_drop]; omega)
    have n2 : (2 : Int) ≤ (n : Int) := by omega
    have c2 : (2 : Int) ≤ (c : Int) := by omega
    have hm6 : m ≤ 100000 := by omega
    have hcm : 36 * m ≤ c - 2 := by omega
    have bx0 := Boxed.new w 38 (.slice none 0 0)
    have BX0 := Lib.hid bx0
    have BB0 := Lib.hid (show Below w.heap.size w (w.alloc (.cells #[.slice none 0 0] 38)) from (Below.refl _ w).alloc (Nat.le_refl _) _)
    have HWH := Lib.hid hwh
    have HNM := Lib.hid hnm
    have HM := Lib.hid hm
    obtain ⟨ie, hie, hz0, hz1, hz2⟩ := info_parts info_heldW
    clear hwh hr bx0 hm hnm hl hc hB hn
    gi_wp2_with (first
      | (refine ⟨trivial, ?_⟩; gi_at_call 22; refine (callsIn_wide.2 HW).mono ?_; rintro e w2 ⟨b1, rfl, hb1, hw2⟩; have hw3 := hw2.symm; clear hw2; subst hw3; obtain rfl : b1 = true := hb1.2 HWH.out; clear hb1 HW)
      | (refine ⟨trivial, ?_⟩; gi_at_call 23; refine (callsIn_wide.2 (chunk_any _ _ _ _)).mono ?_; rintro e w2 ⟨rfl, hb2, hs2, hcs, hcc⟩))
    have hs2' : w2.heap.size = w.heap.size + 3 := by rw [hs2]; simp
    have hB2 : Below w.heap.size w w2 := BB0.out.trans (hb2.mono BB0.out.size)
    have bx2 : Boxed w2 w.heap.size 38 (.slice none 0 0) := (hb2.block w.heap.size BX0.out.lt).trans BX0.out
    rw [World.size_alloc, HNM.out] at hcs
    rw [World.size_alloc] at hcc
    refine wpIn_rangeFunc_ownG (w := w2) rfl (by omega) (gf := 34) (lb := #[.pointer (some ⟨w.heap.size + 1, 0, none⟩), .pointer (some ⟨w.heap.size + 1 + 1, 0, none⟩)]) rfl trivial (enters_of Tryd.func34 (by kernel_rfl) rfl)
      (chunk_stops (4 - 1) (by omega) (w.heap.size + 1) (w.heap.size + 1 + 1) ad2 m (c - 2) hm6 hcm w2 (by omega) (by omega) hcs hcc)
      KpB.trans (kpB_b (by omega) (by omega)) (Below.refl _ _) (fun _ => rfl)
      (fun (pre : List (Fin m)) W => (∃ v, Boxed W w.heap.size 38 v ∧ W.ownsRow w2.heap.size 53 34 v pre.length (nvs (pre.map fun x => ndK b x.1)) ∧ True) ∧ (Below w.heap.size w W ∧ w2.heap.size ≤ W.heap.size))
      (fun _ _ _ => False)
      (OwnFrom.and (Own.from (holdsRow_own w2.heap.size w.heap.size 38 53 34 (fun pre : List (Fin m) => pre.length) (fun pre : List (Fin m) => nvs (pre.map fun x => ndK b x.1)) (fun _ _ => True)) _) (OwnFrom.and (ownFrom_below (Nat.le_refl _) (by omega)) (fun _ _ _ _ hs hg _ => Nat.le_trans hs hg.size)))
      (fun _ _ _ _ _ hs _ _ => hs)
      ⟨⟨_, bx2, World.ownsRow_nil _ _ _ _, trivial⟩, hB2, Nat.le_refl _⟩
      (fun x => { tmps := #[.slice (some ad) n c, undef, .slice none 0 0, .int .i64 0, .pointer (some ⟨w.heap.size, 0, none⟩), pieceV ad2 x.1, .slice (some ad) n c, .bool true, .bool false, .slice (some ad) n c, .slice (some ad2) (n - 2) (c - 2), .func (.func 34) #[] #[.pointer (some ⟨w.heap.size + 1, 0, none⟩), .pointer (some ⟨w.heap.size + 1 + 1, 0, none⟩)], pieceV ad2 x.1, undef, undef, undef, undef, undef, undef, undef, undef, undef], defers := [] }) ?assign ?body ?done ?stop
    case assign =>
      intro l x W K hK
      gi_wp2
      exact hK
    case body =>
      rintro l pre x W ⟨⟨v, hv, hrow, _⟩, hBW, hsz⟩ hlt
      obtain ⟨A1, c1, rfl⟩ := own_formN hrow
      have hxm := x.2
      obtain ⟨y, hy⟩ : ∃ y, y = ndK b x.1 := ⟨_, rfl⟩
      have NO := Lib.hid (show ∀ X, Below W.heap.size W X → Calls Tryd.prog 24 #[pieceV ad2 x.1] X (RetB (.agg (ndC y)) X) from fun X hX => by
        rw [hy]
        exact nodeof_any (B := w.heap.size) (ad2.add (36 * x.1)) 36 _ X (PLL.out x.1 hxm) (Nat.le_refl _) (Nat.le_trans (by omega) (Nat.le_trans hsz hX.size)) (PCC.out X (hBW.trans (hX.mono (Nat.le_trans (by omega) hsz))) x.1 hxm))
      have Y3 : Hid (y.s.length = 32) := by show _ = _; rw [hy]; exact (ndY_fits (by rw [PLL.out x.1 hxm]; omega)).2.2.2.2
      have BOX := Lib.hid (show ∀ X, Below W.heap.size W X → Boxed X w.heap.size 38 (.slice A1 pre.length c1) from fun X hX => (hX.block _ hv.lt).trans hv)
      have ROW := Lib.hid (show ∀ X, Below W.heap.size W X → X.ownsRow w2.heap.size 53 34 (.slice A1 pre.length c1) pre.length (nvs (pre.map fun x => ndK b x.1)) from fun X hX => own_belowN hrow hX)
      have HSZ := Lib.hid hsz
      have hpl : pre.length + 1 ≤ 100001 := by omega
      have HB0 := Lib.hid (show Below W.heap.size W W.drew from (Below.refl _ W).drew)
      have FINF := Lib.hid (show ∀ (X4 : World) (A3 : Option Addr) (c3 : Nat), (Boxed (X4.setCell ⟨w.heap.size, 0, none⟩ (.slice A3 (pre.length + 1) c3)) w.heap.size 38 (.slice A3 (pre.length + 1) c3) ∧
          (X4.setCell ⟨w.heap.size, 0, none⟩ (.slice A3 (pre.length + 1) c3)).ownsRow w2.heap.size 53 34 (.slice A3 (pre.length + 1) c3) (pre.length + 1) (nvs (pre.map fun x => ndK b x.1) ++ ndV y) ∧
          KeepsOthers W (X4.setCell ⟨w.heap.size, 0, none⟩ (.slice A3 (pre.length + 1) c3)) ∧ (∀ k, k < W.heap.size → k < w2.heap.size → k ≠ w.heap.size → (X4.setCell ⟨w.heap.size, 0, none⟩ (.slice A3 (pre.length + 1) c3)).heap[k]? = W.heap[k]?) ∧
          W.heap.size ≤ (X4.setCell ⟨w.heap.size, 0, none⟩ (.slice A3 (pre.length + 1) c3)).heap.size ∧ (X4.setCell ⟨w.heap.size, 0, none⟩ (.slice A3 (pre.length + 1) c3)).os = W.os ∧ (X4.setCell ⟨w.heap.size, 0, none⟩ (.slice A3 (pre.length + 1) c3)).tape = W.tape ∧ (X4.setCell ⟨w.heap.size, 0, none⟩ (.slice A3 (pre.length + 1) c3)).output = W.output) →
          KeepsFrom w2.heap.size W (X4.setCell ⟨w.heap.size, 0, none⟩ (.slice A3 (pre.length + 1) c3)) ∧ KpB (w.heap.size + 1) (w.heap.size + 1 + 1) W (X4.setCell ⟨w.heap.size, 0, none⟩ (.slice A3 (pre.length + 1) c3)) ∧
          ((∃ v, Boxed (X4.setCell ⟨w.heap.size, 0, none⟩ (.slice A3 (pre.length + 1) c3)) w.heap.size 38 v ∧ (X4.setCell ⟨w.heap.size, 0, none⟩ (.slice A3 (pre.length + 1) c3)).ownsRow w2.heap.size 53 34 v (pre ++ [x]).length (nvs ((pre ++ [x]).map fun x => ndK b x.1)) ∧ True) ∧ (Below w.heap.size w (X4.setCell ⟨w.heap.size, 0, none⟩ (.slice A3 (pre.length + 1) c3)) ∧ w2.heap.size ≤ (X4.setCell ⟨w.heap.size, 0, none⟩ (.slice A3 (pre.length + 1) c3)).heap.size)) from fun X4 A3 c3 => by
        generalize X4.setCell ⟨w.heap.size, 0, none⟩ (.slice A3 (pre.length + 1) c3) = Y
        rintro ⟨h1, h2, h3, h4, h5, h6, h7, h8⟩
        refine ⟨h3.from _, ⟨h4 _ (by omega) (by omega) (by omega), h4 _ (by omega) (by omega) (by omega)⟩, ⟨_, h1, ?_, trivial⟩, ⟨h6.trans hBW.os, h7.trans hBW.tape, h8.trans hBW.output, Nat.le_trans hBW.size h5, fun k hk => (h4 k (Nat.lt_of_lt_of_le hk hBW.size) (by omega) (by omega)).trans (hBW.block k hk)⟩, Nat.le_trans hsz h5⟩
        rw [List.length_append, List.map_append, nvs_append]
        have e : nvs (List.map (fun x : Fin m => ndK b x.1) [x]) = ndV y := by rw [hy]; simp [nvs]
        rw [e]
        exact h2)
      have HPL := Lib.hid hpl
      clear hv hrow hBW hsz hxm hlt hy hcs hcc hB2 bx2 hb2 hs2 hs2' had2
      gi_wp2
      refine wpIn_region_any (by kernel_rfl) ?_
      change wpAnyIn _ _ _ _ _ _ _ _ _ W.drew
      try simp only [List.getElem_toArray, List.getElem_cons_succ, List.getElem_cons_zero, Act.put, List.setIfInBounds_toArray, List.set_cons_zero, List.set_cons_succ]
      refine wpAnyIn_ready (rs := [0, 1]) (by kernel_rfl) (by simp) (AllReadyIn.cons rfl (fun K hK => ?_) (AllReadyIn.cons rfl (fun K hK => ?_) AllReadyIn.nil))
      · skip
        have c0 := (BOX.out _ HB0.out).cell
        go_simp
        refine hK _ _ ?_
        clear hK K c0
        try simp only [List.getElem_toArray, List.getElem_cons_succ, List.getElem_cons_zero, Act.put, List.setIfInBounds_toArray, List.set_cons_zero, List.set_cons_succ]
        refine wpAnyIn_ready (rs := [1]) (by kernel_rfl) (by simp) (AllReadyIn.cons rfl (fun K hK => ?_) AllReadyIn.nil)
        go_simp
        refine hK _ _ ?_
        clear hK K
        try simp only [List.getElem_toArray, List.getElem_cons_succ, List.getElem_cons_zero, Act.put, List.setIfInBounds_toArray, List.set_cons_zero, List.set_cons_succ]
        refine wpAnyIn_ready (rs := [2]) (by kernel_rfl) (by simp) (AllReadyIn.cons rfl (fun K hK => ?_) AllReadyIn.nil)
        go_simp
        refine ⟨trivial, ?_⟩
        refine (CallsIn.inRound l (callsIn_wide.2 (NO.out _ HB0.out))).mono ?_
        rintro e X3 ⟨rfl, bw⟩
        have HB3 := Lib.hid (HB0.out.trans (bw.mono HB0.out.size))
        clear bw
        go_simp
        refine hK _ _ ?_
        clear hK K
        try simp only [List.getElem_toArray, List.getElem_cons_succ, List.getElem_cons_zero, Act.put, List.setIfInBounds_toArray, List.set_cons_zero, List.set_cons_succ]
        refine wpAnyIn_ready (rs := [3]) (by kernel_rfl) (by simp) (AllReadyIn.cons rfl (fun K hK => ?_) AllReadyIn.nil)
        rw [if_pos (by rfl)]
        refine wpIn_val (fun _ h => by cases h) (exec_buildSlice (t := 38) (e := 53) (len := 1) (parts := #[(0, .tmp 15)]) rfl (cells := ndC y) (ie := ie) (z := _) Tryd.underlying38 hie hz0 (by rw [hz1]; omega) (by rw [hz1]; omega) (by rw [hz1]; simp only [List.map_toArray, List.map_cons, List.map_nil]; exact one_fill y Y3.out)) ?_
        generalize hwx : World.alloc _ _ = X4
        have HB4 := Lib.hid (show Below W.heap.size W X4 by rw [← hwx]; exact HB3.out.alloc HB3.out.size _)
        have FR := Lib.hid (show Rd X4.heap.size X4 (some ⟨_, 0, none⟩) (ndV y) by rw [← hwx]; exact rd_ndC (heap_alloc_new _ _))
        refine hK _ _ ?_
        clear hK K hwx
        try simp only [List.getElem_toArray, List.getElem_cons_succ, List.getElem_cons_zero, Act.put, List.setIfInBounds_toArray, List.set_cons_zero, List.set_cons_succ]
        refine wpAnyIn_ready (rs := [4]) (by kernel_rfl) (by simp) (AllReadyIn.cons rfl (fun K hK => ?_) AllReadyIn.nil)
        rw [if_pos (by rfl)]
        refine wpIn_appN (.tmp 13) (.tmp 16) 38 rfl heldsElt (n := pre.length) (v := .slice A1 pre.length c1) rfl (ROW.out _ HB4.out) (m := 1) rfl FR.out (by rw [ndV_length Y3.out]) (ndV_one _) (by have := HPL.out; omega) (Nat.le_trans HSZ.out HB4.out.size) ?_
        intro A3 c3 X5 ho3 hg3
        have BD := body_done (b0 := w.heap.size) (n0 := w2.heap.size) (BOX.out _ (Below.refl _ _)) (ROW.out _ (Below.refl _ _)) HB4.out (BOX.out _ HB4.out) (ROW.out _ HB4.out) ho3 hg3
        have BX := Lib.hid BD.1
        have FIN := Lib.hid (FINF.out _ _ _ BD.2)
        refine hK _ _ ?_
        clear hK K ho3 hg3 BD
        try simp only [List.getElem_toArray, List.getElem_cons_succ, List.getElem_cons_zero, Act.put, List.setIfInBounds_toArray, List.set_cons_zero, List.set_cons_succ]
        refine wpAnyIn_ready (rs := [5]) (by kernel_rfl) (by simp) (AllReadyIn.cons rfl (fun K hK => ?_) AllReadyIn.nil)
        have c0 := BX.out.cell
        have f0 := BX.out.frozen
        go_simp
        refine hK _ _ ?_
        clear hK K c0 f0
        refine wpAnyIn_done (by kernel_rfl) ?_ _
        gi_wp2
        exact FIN.out
      · skip
        go_simp
        refine hK _ _ ?_
        clear hK K
        try simp only [List.getElem_toArray, List.getElem_cons_succ, List.getElem_cons_zero, Act.put, List.setIfInBounds_toArray, List.set_cons_zero, List.set_cons_succ]
        refine wpAnyIn_ready (rs := [0, 2]) (by kernel_rfl) (by simp) (AllReadyIn.cons rfl (fun K hK => ?_) (AllReadyIn.cons rfl (fun K hK => ?_) AllReadyIn.nil))
        · skip
          have c0 := (BOX.out _ HB0.out).cell
          go_simp
          refine hK _ _ ?_
          clear hK K c0
          try simp only [List.getElem_toArray, List.getElem_cons_succ, List.getElem_cons_zero, Act.put, List.setIfInBounds_toArray, List.set_cons_zero, List.set_cons_succ]
          refine wpAnyIn_ready (rs := [2]) (by kernel_rfl) (by simp) (AllReadyIn.cons rfl (fun K hK => ?_) AllReadyIn.nil)
          go_simp
          refine ⟨trivial, ?_⟩
          refine (CallsIn.inRound l (callsIn_wide.2 (NO.out _ HB0.out))).mono ?_
          rintro e X9 ⟨rfl, bw⟩
          have HB9 := Lib.hid (HB0.out.trans (bw.mono HB0.out.size))
          clear bw
          go_simp
          refine hK _ _ ?_
          clear hK K
          try simp only [List.getElem_toArray, List.getElem_cons_succ, List.getElem_cons_zero, Act.put, List.setIfInBounds_toArray, List.set_cons_zero, List.set_cons_succ]
          refine wpAnyIn_ready (rs := [3]) (by kernel_rfl) (by simp) (AllReadyIn.cons rfl (fun K hK => ?_) AllReadyIn.nil)
          rw [if_pos (by rfl)]
          refine wpIn_val (fun _ h => by cases h) (exec_buildSlice (t := 38) (e := 53) (len := 1) (parts := #[(0, .tmp 15)]) rfl (cells := ndC y) (ie := ie) (z := _) Tryd.underlying38 hie hz0 (by rw [hz1]; omega) (by rw [hz1]; omega) (by rw [hz1]; simp only [List.map_toArray, List.map_cons, List.map_nil]; exact one_fill y Y3.out)) ?_
          generalize hwx : World.alloc _ _ = X10
          have HB10 := Lib.hid (show Below W.heap.size W X10 by rw [← hwx]; exact HB9.out.alloc HB9.out.size _)
          have FR := Lib.hid (show Rd X10.heap.size X10 (some ⟨_, 0, none⟩) (ndV y) by rw [← hwx]; exact rd_ndC (heap_alloc_new _ _))
          refine hK _ _ ?_
          clear hK K hwx
          try simp only [List.getElem_toArray, List.getElem_cons_succ, List.getElem_cons_zero, Act.put, List.setIfInBounds_toArray, List.set_cons_zero, List.set_cons_succ]
          refine wpAnyIn_ready (rs := [4]) (by kernel_rfl) (by simp) (AllReadyIn.cons rfl (fun K hK => ?_) AllReadyIn.nil)
          rw [if_pos (by rfl)]
          refine wpIn_appN (.tmp 13) (.tmp 16) 38 rfl heldsElt (n := pre.length) (v := .slice A1 pre.length c1) rfl (ROW.out _ HB10.out) (m := 1) rfl FR.out (by rw [ndV_length Y3.out]) (ndV_one _) (by have := HPL.out; omega) (Nat.le_trans HSZ.out HB10.out.size) ?_
          intro A3 c3 X11 ho3 hg3
          have BD := body_done (b0 := w.heap.size) (n0 := w2.heap.size) (BOX.out _ (Below.refl _ _)) (ROW.out _ (Below.refl _ _)) HB10.out (BOX.out _ HB10.out) (ROW.out _ HB10.out) ho3 hg3
          have BX := Lib.hid BD.1
          have FIN := Lib.hid (FINF.out _ _ _ BD.2)
          refine hK _ _ ?_
          clear hK K ho3 hg3 BD
          try simp only [List.getElem_toArray, List.getElem_cons_succ, List.getElem_cons_zero, Act.put, List.setIfInBounds_toArray, List.set_cons_zero, List.set_cons_succ]
          refine wpAnyIn_ready (rs := [5]) (by kernel_rfl) (by simp) (AllReadyIn.cons rfl (fun K hK => ?_) AllReadyIn.nil)
          have c0 := BX.out.cell
          have f0 := BX.out.frozen
          go_simp
          refine hK _ _ ?_
          clear hK K c0 f0
          refine wpAnyIn_done (by kernel_rfl) ?_ _
          gi_wp2
          exact FIN.out
        · skip
          go_simp
          refine ⟨trivial, ?_⟩
          refine (CallsIn.inRound l (callsIn_wide.2 (NO.out _ HB0.out))).mono ?_
          rintro e X13 ⟨rfl, bw⟩
          have HB13 := Lib.hid (HB0.out.trans (bw.mono HB0.out.size))
          clear bw
          go_simp
          refine hK _ _ ?_
          clear hK K
          try simp only [List.getElem_toArray, List.getElem_cons_succ, List.getElem_cons_zero, Act.put, List.setIfInBounds_toArray, List.set_cons_zero, List.set_cons_succ]
          refine wpAnyIn_ready (rs := [0, 3]) (by kernel_rfl) (by simp) (AllReadyIn.cons rfl (fun K hK => ?_) (AllReadyIn.cons rfl (fun K hK => ?_) AllReadyIn.nil))
          · skip
            have c0 := (BOX.out _ HB13.out).cell
            go_simp
            refine hK _ _ ?_
            clear hK K c0
            try simp only [List.getElem_toArray, List.getElem_cons_succ, List.getElem_cons_zero, Act.put, List.setIfInBounds_toArray, List.set_cons_zero, List.set_cons_succ]
            refine wpAnyIn_ready (rs := [3]) (by kernel_rfl) (by simp) (AllReadyIn.cons rfl (fun K hK => ?_) AllReadyIn.nil)
            rw [if_pos (by rfl)]
            refine wpIn_val (fun _ h => by cases h) (exec_buildSlice (t := 38) (e := 53) (len := 1) (parts := #[(0, .tmp 15)]) rfl (cells := ndC y) (ie := ie) (z := _) Tryd.underlying38 hie hz0 (by rw [hz1]; omega) (by rw [hz1]; omega) (by rw [hz1]; simp only [List.map_toArray, List.map_cons, List.map_nil]; exact one_fill y Y3.out)) ?_
            generalize hwx : World.alloc _ _ = X15
            have HB15 := Lib.hid (show Below W.heap.size W X15 by rw [← hwx]; exact HB13.out.alloc HB13.out.size _)
            have FR := Lib.hid (show Rd X15.heap.size X15 (some ⟨_, 0, none⟩) (ndV y) by rw [← hwx]; exact rd_ndC (heap_alloc_new _ _))
            refine hK _ _ ?_
            clear hK K hwx
            try simp only [List.getElem_toArray, List.getElem_cons_succ, List.getElem_cons_zero, Act.put, List.setIfInBounds_toArray, List.set_cons_zero, List.set_cons_succ]
            refine wpAnyIn_ready (rs := [4]) (by kernel_rfl) (by simp) (AllReadyIn.cons rfl (fun K hK => ?_) AllReadyIn.nil)
            rw [if_pos (by rfl)]
            refine wpIn_appN (.tmp 13) (.tmp 16) 38 rfl heldsElt (n := pre.length) (v := .slice A1 pre.length c1) rfl (ROW.out _ HB15.out) (m := 1) rfl FR.out (by rw [ndV_length Y3.out]) (ndV_one _) (by have := HPL.out; omega) (Nat.le_trans HSZ.out HB15.out.size) ?_
            intro A3 c3 X16 ho3 hg3
            have BD := body_done (b0 := w.heap.size) (n0 := w2.heap.size) (BOX.out _ (Below.refl _ _)) (ROW.out _ (Below.refl _ _)) HB15.out (BOX.out _ HB15.out) (ROW.out _ HB15.out) ho3 hg3
            have BX := Lib.hid BD.1
            have FIN := Lib.hid (FINF.out _ _ _ BD.2)
            refine hK _ _ ?_
            clear hK K ho3 hg3 BD
            try simp only [List.getElem_toArray, List.getElem_cons_succ, List.getElem_cons_zero, Act.put, List.setIfInBounds_toArray, List.set_cons_zero, List.set_cons_succ]
            refine wpAnyIn_ready (rs := [5]) (by kernel_rfl) (by simp) (AllReadyIn.cons rfl (fun K hK => ?_) AllReadyIn.nil)
            have c0 := BX.out.cell
            have f0 := BX.out.frozen
            go_simp
            refine hK _ _ ?_
            clear hK K c0 f0
            refine wpAnyIn_done (by kernel_rfl) ?_ _
            gi_wp2
            exact FIN.out
          · skip
            rw [if_pos (by rfl)]
            refine wpIn_val (fun _ h => by cases h) (exec_buildSlice (t := 38) (e := 53) (len := 1) (parts := #[(0, .tmp 15)]) rfl (cells := ndC y) (ie := ie) (z := _) Tryd.underlying38 hie hz0 (by rw [hz1]; omega) (by rw [hz1]; omega) (by rw [hz1]; simp only [List.map_toArray, List.map_cons, List.map_nil]; exact one_fill y Y3.out)) ?_
            generalize hwx : World.alloc _ _ = X18
            have HB18 := Lib.hid (show Below W.heap.size W X18 by rw [← hwx]; exact HB13.out.alloc HB13.out.size _)
            have FR := Lib.hid (show Rd X18.heap.size X18 (some ⟨_, 0, none⟩) (ndV y) by rw [← hwx]; exact rd_ndC (heap_alloc_new _ _))
            refine hK _ _ ?_
            clear hK K hwx
            try simp only [List.getElem_toArray, List.getElem_cons_succ, List.getElem_cons_zero, Act.put, List.setIfInBounds_toArray, List.set_cons_zero, List.set_cons_succ]
            refine wpAnyIn_ready (rs := [0]) (by kernel_rfl) (by simp) (AllReadyIn.cons rfl (fun K hK => ?_) AllReadyIn.nil)
            have c0 := (BOX.out _ HB18.out).cell
            go_simp
            refine hK _ _ ?_
            clear hK K c0
            try simp only [List.getElem_toArray, List.getElem_cons_succ, List.getElem_cons_zero, Act.put, List.setIfInBounds_toArray, List.set_cons_zero, List.set_cons_succ]
            refine wpAnyIn_ready (rs := [4]) (by kernel_rfl) (by simp) (AllReadyIn.cons rfl (fun K hK => ?_) AllReadyIn.nil)
            rw [if_pos (by rfl)]
            refine wpIn_appN (.tmp 13) (.tmp 16) 38 rfl heldsElt (n := pre.length) (v := .slice A1 pre.length c1) rfl (ROW.out _ HB18.out) (m := 1) rfl FR.out (by rw [ndV_length Y3.out]) (ndV_one _) (by have := HPL.out; omega) (Nat.le_trans HSZ.out HB18.out.size) ?_
            intro A3 c3 X20 ho3 hg3
            have BD := body_done (b0 := w.heap.size) (n0 := w2.heap.size) (BOX.out _ (Below.refl _ _)) (ROW.out _ (Below.refl _ _)) HB18.out (BOX.out _ HB18.out) (ROW.out _ HB18.out) ho3 hg3
            have BX := Lib.hid BD.1
            have FIN := Lib.hid (FINF.out _ _ _ BD.2)
            refine hK _ _ ?_
            clear hK K ho3 hg3 BD
            try simp only [List.getElem_toArray, List.getElem_cons_succ, List.getElem_cons_zero, Act.put, List.setIfInBounds_toArray, List.set_cons_zero, List.set_cons_succ]
            refine wpAnyIn_ready (rs := [5]) (by kernel_rfl) (by simp) (AllReadyIn.cons rfl (fun K hK => ?_) AllReadyIn.nil)
            have c0 := BX.out.cell
            have f0 := BX.out.frozen
            go_simp
            refine hK _ _ ?_
            clear hK K c0 f0
            refine wpAnyIn_done (by kernel_rfl) ?_ _
            gi_wp2
            exact FIN.out
    case done =>
      rintro D xs W hD rfl ⟨⟨v, hv, hrow, _⟩, hBW, hsz⟩ hK
      obtain ⟨A1, c1, rfl⟩ := own_formN hrow
      rw [all_nodes, List.length_finRange] at hrow
      have hfit := decN_fits m (b.drop 2) (by rw [List.length_drop]; have := HWH.out.2; rw [← HM.out] at this; omega)
      have MAY := maybe_any (B := W.heap.size) A1 m c1 (decN m (b.drop 2)) W (decN_length _ _) (fun x hx => (hfit x hx).2.2.2.2) (fun x hx => (hfit x hx).2.2.1) (Nat.le_refl _) (Rd.ownN hrow) (by omega)
      have hDl : D < W.heap.size := (Array.getElem?_eq_some_iff.1 hK).1
      have hDw : w.heap.size ≤ D := by omega
      have hst : ∀ w5, Below W.heap.size W w5 → w5.heap[D]? = some (.deferred (some [])) ∧ Boxed w5 w.heap.size 38 (.slice A1 m c1) ∧ w5.ownsRow w2.heap.size 53 34 (.slice A1 m c1) m (nvs (decN m (b.drop 2))) ∧ Below w.heap.size w w5 := fun w5 bw =>
        ⟨(bw.block D hDl).trans hK, (bw.block _ hv.lt).trans (by rw [List.length_finRange] at hv; exact hv), own_belowN hrow bw, hBW.trans (bw.mono hBW.size)⟩
      have ST := Lib.hid hst
      have hv' : W.cell? ⟨w.heap.size, 0, none⟩ = some (.slice A1 m c1) := by rw [List.length_finRange] at hv; exact hv.cell
      have hvf := hv.frozen
      have HWS := Lib.hid (show w.heap.size ≤ w2.heap.size by omega)
      by_cases hok : okS 0 (decN m (b.drop 2))
      · have HOK := Lib.hid hok
        have MAY' := MAY.mono (R' := fun e w' => e = .returned (.bool true) ∧ Below W.heap.size W w') (by
          rintro e w5 ⟨b1, rfl, hb1, bw⟩
          obtain rfl : b1 = true := hb1.2 hok
          exact ⟨rfl, bw⟩)
        clear MAY hok hst hfit hv hrow hBW hsz hD hK hDl hs2 hs2' hcs hcc hb2 hB2 bx2 had2
        gi_wp2_with (refine ⟨trivial, ?_⟩; gi_at_call 18; refine (callsIn_wide.2 MAY').mono ?_; clear MAY'; rintro e w5 ⟨rfl, bw⟩; have hv5 := (ST.out w5 bw).2.1.cell)
        obtain ⟨hK5, _, ho5, hb5⟩ := ST.out w5 bw
        refine ⟨by simp, .inl ⟨_, _, rfl, run_takeDeferred hK5, ?_⟩⟩
        refine ⟨_, results_tmp2 rfl _ _ _, hb5.trans (belowK_b (w := w) (Nat.le_refl _) w5 D _ _ hDw hK5 rfl rfl), .inl ⟨⟨HWH.out.1, HWH.out.2, by rw [← HM.out]; exact HOK.out⟩, _, _, _, rfl, ?_⟩⟩
        rw [← HM.out]
        exact own_moreN (ownsRow_putObj ho5 _ hK5 rfl) HWS.out
      · have HOK := Lib.hid hok
        have MAY' := MAY.mono (R' := fun e w' => e = .returned (.bool false) ∧ Below W.heap.size W w') (by
          rintro e w5 ⟨b1, rfl, hb1, bw⟩
          obtain rfl : b1 = false := (by cases b1; rfl; exact absurd (hb1.1 rfl) hok)
          exact ⟨rfl, bw⟩)
        clear MAY hok hst hfit hv hrow hBW hsz hD hK hDl hs2 hs2' hcs hcc hb2 hB2 bx2 had2
        gi_wp2_with (refine ⟨trivial, ?_⟩; gi_at_call 18; refine (callsIn_wide.2 MAY').mono ?_; clear MAY'; rintro e w5 ⟨rfl, bw⟩; have hv5 := (ST.out w5 bw).2.1.cell)
        obtain ⟨hK5, _, ho5, hb5⟩ := ST.out w5 bw
        refine ⟨by simp, .inl ⟨_, _, rfl, run_takeDeferred hK5, ?_⟩⟩
        exact ⟨_, results_tmp2 rfl _ _ _, hb5.trans (belowK_b (w := w) (Nat.le_refl _) w5 D _ _ hDw hK5 rfl rfl), .inr ⟨fun h => HOK.out (by have := h.2.2; rwa [← HM.out] at this), rfl⟩⟩
    case stop =>
      rintro D c pre W _ _ h _
      exact h.elim
  · gi_wp2_with (refine ⟨trivial, ?_⟩; gi_at_call 22; refine (callsIn_wide.2 HW).mono ?_; rintro e w2 ⟨b1, rfl, hb1, hw2⟩; have hw3 := hw2.symm; clear hw2; subst hw3; obtain rfl : b1 = false := (by cases b1; rfl; exact absurd (hb1.1 rfl) hwh); clear hb1)
    refine ⟨_, results_tmp2 rfl _ _ _, Below.refl _ _, .inr ⟨fun h => hwh ⟨h.1, h.2.1⟩, rfl⟩⟩
end Go.Proofs.YtippbjpodnnhiaaDoor.Kc
