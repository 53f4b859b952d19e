/-
  An operation under a guard that holds: a whole array's load, a build.
-/
import Derived.Test.YtolbffcbamfbeaaKdMore
namespace Go.Proofs.Ytolbffcbamfbeaa.Kd
open Go.RowKit Go.Maps
theorem wpList_execg8 {P : Program} {w w' : World} {ops : Array Oper} {rest : List Oper} {o : Oper} {a : Act} {Q : Exit → Act → World → Prop} {v : Value} (hgd : Region.wanted o (yielded ops a.tmps) = true)
    (h : (execOp a.eval o).run P w = .ok (.value v) w') (hk : wpList P ops Q rest (a.put o.dst v) w') : wpList P ops Q (o :: rest) a w := by
  unfold wpList
  rw [if_pos hgd]
  refine .inl ?_
  unfold Oper.wp
  rw [h]
  exact hk
theorem exec_build8 {P : Program} {w : World} {r : Operand → Value} {o : Oper} {v : Value} (t : TypeId) (parts : Array (Nat × Operand)) (ho : o.op = .build t parts) (h : (Instr.build t (parts.map fun (i, x) => (i, r x))).run P w = .ok v w) :
    (execOp r o).run P w = .ok (.value v) w := by
  unfold execOp
  simp only [ho, Sem.run_bind, h, Result.andThen_ok, Sem.run_pure]
/-- One device on power of its own, of n sectors: as it begins; a write of its first sector waits; that is flushed. -/
def ap0 (n : Nat) : Sy := ⟨⟨false, -1⟩, [newDv n]⟩
def ap1 (n : Nat) (s : List UInt8) : Sy := ⟨⟨false, -1⟩, [⟨List.replicate n zeroS, [(0, s)], 0, 0, false, false⟩]⟩
def ap2 (n : Nat) (s : List UInt8) : Sy := ⟨⟨false, -1⟩, [⟨(List.replicate n zeroS).set 0 s, [], 0, 0, false, false⟩]⟩
theorem ap_w {n : Nat} {s : List UInt8} (hn : 0 < n) : (ap0 n).write 0 0 s = (0, ap1 n s) := by
  have hr : refuseN (ap0 n).p ((ap0 n).at 0) ((0 : Nat) : Int) = 0 := by
    show (if (false || false) = true then (13 : Int) else if ((0 : Nat) : Int) < 0 ∨ ((List.replicate n zeroS).length : Int) ≤ ((0 : Nat) : Int) then 2 else 0) = 0
    rw [if_neg (by simp), if_neg (by rw [List.length_replicate]; omega)]
  exact write_yes (S := ap0 n) (k := 0) (n := 0) hr
theorem ap_f {n : Nat} {s : List UInt8} : (ap1 n s).flush 0 = (0, ap2 n s) := rfl
theorem ap_len0 (n : Nat) : ((ap0 n).at 0).st.length = n := by show (List.replicate n zeroS).length = n; rw [List.length_replicate]
theorem ap_len2 (n : Nat) (s : List UInt8) : ((ap2 n s).at 0).st.length = n := by show ((List.replicate n zeroS).set 0 s).length = n; rw [List.length_set, List.length_replicate]
theorem ap_r {n : Nat} {s : List UInt8} (hn : 0 < n) : readV (ap2 n s).p ((ap2 n s).at 0) 0 = .tuple #[.agg (bva s), .int .i64 0] := by
  have hr : refuseN (ap2 n s).p ((ap2 n s).at 0) 0 = 0 := by
    show (if (false || false) = true then (13 : Int) else if (0 : Int) < 0 ∨ (((List.replicate n zeroS).set 0 s).length : Int) ≤ 0 then 2 else 0) = 0
    rw [if_neg (by simp), if_neg (by rw [List.length_set, List.length_replicate]; omega)]
  rw [readV_yes hr]
  have : ((ap2 n s).at 0).now (0 : Int).toNat = s := by
    show ((List.replicate n zeroS).set 0 s).getD 0 zeroS = s
    rw [set_getD _ _ _ _ (by rw [List.length_replicate]; exact hn), if_pos rfl]
  rw [this]
/-- What is dumped lies in new memory. -/
theorem live_dump8 {w0 w : World} {p : Nat} {gs : List Nat} {S : Sy} {F : Nat → Prop} (h : Live w0 w p gs S F) (k : Nat) (hk : k < S.ds.length) :
    Calls Try.prog 22 #[.pointer (some ⟨gs.getD k 0, 0, none⟩)] w (fun e w' => ∃ A n c, e = .returned (.slice A n c) ∧ (S.at k).st.length = n ∧ RowS w' F (.slice A n c) n (S.at k).st ∧ (∀ q, (Value.slice A n c).ownBlock = some q → w0.heap.size ≤ q) ∧ Below w.heap.size w w') :=
  (dump_sys h.sys k hk).mono fun _ _ ⟨A, n, c, h0, h1, h2⟩ => by
    have hn : (S.at k).st.length = n := by have := h1.1; rw [svs_length (h.sys.ok hk).st] at this; omega
    exact ⟨A, n, c, h0, hn, ⟨⟨h1.1, h1.2.imp id (fun ⟨g, cap, cur, h3, _, h4⟩ => ⟨g, cap, cur, h3, Nat.zero_le _, h4⟩)⟩, fun q hq hf => by have := (h1.lt q hq).1; have := h.lt q hf; omega⟩, fun q hq => Nat.le_trans h.bel.size (h1.lt q hq).1, h2⟩
/-- Memory that is none of the devices', and new, changes. -/
theorem Live.but8 {w0 w w' : World} {p : Nat} {gs : List Nat} {S : Sy} {F T : Nat → Prop} (h : Live w0 w p gs S F) (hb : But T w w') (h1 : ∀ q, F q → T q → False) (h2 : ∀ q, T q → w0.heap.size ≤ q) : Live w0 w' p gs S F :=
  ⟨h.sys.but hb h1, h.new, h.bel.trans (hb.below (fun k hk hq => by have := h2 k hq; omega) h.bel.size)⟩
end Go.Proofs.Ytolbffcbamfbeaa.Kd
