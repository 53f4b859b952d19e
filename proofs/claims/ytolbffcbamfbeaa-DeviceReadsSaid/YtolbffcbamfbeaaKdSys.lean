/-
  Power, and all of its devices, in memory.
-/
import Derived.Test.YtolbffcbamfbeaaKdSettle
namespace Go.Proofs.Ytolbffcbamfbeaa.Kd
open Go.RowKit Go.Maps
attribute [local go_sem ↓] Go.wp_at_zero Go.wp_at_succ
/-- What is told to a device when power fails. -/
def cloV (b : Nat) : Value := .func (.func 34) #[] #[.pointer (some ⟨b, 0, none⟩)]
structure PowR (w : World) (p : Nat) (P : Pw) (bs : List Nat) (FA : Option Addr) (fc : Nat) (lf : Int) : Prop where
  blk : Blk w p #[.bool (!P.off), .int .i64 lf, .slice FA bs.length fc] 70
  row : w.ownsRow 0 1 1 (.slice FA bs.length fc) bs.length (bs.map cloV)
  same : P.off = false → lf = P.left
  lo : -1 ≤ lf
  hi : lf ≤ 9223372036854775807
  left : -1 ≤ P.left
structure SysR (w : World) (p : Nat) (gs bs : List Nat) (S : Sy) (Fs : Nat → Nat → Prop) (FA : Option Addr) (fc : Nat) (lf : Int) : Prop where
  pow : PowR w p S.p bs FA fc lf
  gl : gs.length = S.ds.length
  bl : bs.length = S.ds.length
  dev : ∀ i, i < S.ds.length → DevAt w p (gs.getD i 0) (S.at i) (Fs i)
  box : ∀ i, i < S.ds.length → Blk w (bs.getD i 0) #[.pointer (some ⟨gs.getD i 0, 0, none⟩)] 30
  apart : ∀ i j q, i < S.ds.length → j < S.ds.length → i ≠ j → Fs i q → Fs j q → False
  lt : ∀ i q, i < S.ds.length → Fs i q → q < w.heap.size
  other : ∀ i q, i < S.ds.length → Fs i q → q ≠ p ∧ (∀ k, (Value.slice FA bs.length fc).ownBlock = some k → q ≠ k) ∧ ∀ j, j < S.ds.length → q ≠ bs.getD j 0
def SysF (p : Nat) (bs : List Nat) (Fs : Nat → Nat → Prop) (FA : Option Addr) (fc n : Nat) : Nat → Prop := fun q =>
  q = p ∨ (Value.slice FA bs.length fc).ownBlock = some q ∨ (∃ j, j < n ∧ q = bs.getD j 0) ∨ ∃ i, i < n ∧ Fs i q
/-- A power's devices, whose blocks lie in F. -/
def Sys (w : World) (p : Nat) (gs : List Nat) (S : Sy) (F : Nat → Prop) : Prop :=
  ∃ bs Fs FA fc lf, SysR w p gs bs S Fs FA fc lf ∧ (∀ q, SysF p bs Fs FA fc S.ds.length q → F q) ∧ ∀ q, F q → q < w.heap.size
/-- It returns v; the devices are S now. -/
def RetS (v : Value) (p : Nat) (gs : List Nat) (S : Sy) (F : Nat → Prop) (w : World) (e : Ending) (w' : World) : Prop :=
  e = .returned v ∧ ∃ F', Sys w' p gs S F' ∧ (∀ q, F' q → F q ∨ w.heap.size ≤ q) ∧ But F w w'
section
variable {w w' : World} {p : Nat} {gs bs : List Nat} {S : Sy} {Fs : Nat → Nat → Prop} {F T : Nat → Prop} {FA : Option Addr} {fc : Nat} {lf : Int}
theorem at_put {i j : Nat} (d : Dv) (hi : i < S.ds.length) : (S.put i d).at j = if i = j then d else S.at j := by
  show (S.ds.set i d).getD j noDv = _
  rw [List.getD_eq_getElem?_getD, List.getElem?_set]
  split
  · rename_i h; subst h; rfl
  · rfl
theorem len_put {i : Nat} (d : Dv) : (S.put i d).ds.length = S.ds.length := by show (S.ds.set i d).length = _; simp
theorem put_at {i : Nat} : S.put i (S.at i) = S := by
  obtain ⟨P, ds⟩ := S
  show Sy.mk P (ds.set i (ds.getD i noDv)) = _
  congr 1
  apply List.ext_getElem?
  intro k
  rw [List.getElem?_set]
  split
  · rename_i h; subst h
    split
    · rename_i h; rw [List.getElem?_eq_getElem h, List.getD_eq_getElem?_getD, List.getElem?_eq_getElem h]; rfl
    · rename_i h; rw [List.getElem?_eq_none (by omega)]
  · rfl
theorem PowR.below {P : Pw} (h : PowR w p P bs FA fc lf) (hb : Below w.heap.size w w') : PowR w' p P bs FA fc lf :=
  ⟨h.blk.below hb, own_belowN h.row hb, h.same, h.lo, h.hi, h.left⟩
theorem PowR.but {P : Pw} (h : PowR w p P bs FA fc lf) (hb : But T w w') (hp : ¬ T p) (hr : ∀ k, (Value.slice FA bs.length fc).ownBlock = some k → ¬ T k) : PowR w' p P bs FA fc lf :=
  ⟨h.blk.but hb hp, Own.but h.row hb hr, h.same, h.lo, h.hi, h.left⟩
theorem SysR.below (h : SysR w p gs bs S Fs FA fc lf) (hb : Below w.heap.size w w') : SysR w' p gs bs S Fs FA fc lf :=
  ⟨h.pow.below hb, h.gl, h.bl, fun i hi => (h.dev i hi).below hb, fun i hi => (h.box i hi).below hb, h.apart, fun i q hi hq => Nat.lt_of_lt_of_le (h.lt i q hi hq) hb.size, h.other⟩
theorem Sys.below (h : Sys w p gs S F) (hb : Below w.heap.size w w') : Sys w' p gs S F := by
  obtain ⟨bs, Fs, FA, fc, lf, h, h1, h2⟩ := h
  exact ⟨bs, Fs, FA, fc, lf, h.below hb, h1, fun q hq => Nat.lt_of_lt_of_le (h2 q hq) hb.size⟩
theorem SysR.but (h : SysR w p gs bs S Fs FA fc lf) (hb : But T w w') (ht : ∀ q, SysF p bs Fs FA fc S.ds.length q → ¬ T q) : SysR w' p gs bs S Fs FA fc lf :=
  ⟨h.pow.but hb (ht _ (.inl rfl)) (fun _ hk => ht _ (.inr (.inl hk))), h.gl, h.bl, fun i hi => (h.dev i hi).but hb (fun q hq hq' => ht q (.inr (.inr (.inr ⟨i, hi, hq⟩))) hq'), fun i hi => (h.box i hi).but hb (ht _ (.inr (.inr (.inl ⟨i, hi, rfl⟩)))), h.apart, fun i q hi hq => Nat.lt_of_lt_of_le (h.lt i q hi hq) hb.size, h.other⟩
theorem Sys.but (h : Sys w p gs S F) (hb : But T w w') (ht : ∀ q, F q → T q → False) : Sys w' p gs S F := by
  obtain ⟨bs, Fs, FA, fc, lf, h, h1, h2⟩ := h
  exact ⟨bs, Fs, FA, fc, lf, h.but hb (fun q hq hq' => ht q (h1 q hq) hq'), h1, fun q hq => Nat.lt_of_lt_of_le (h2 q hq) hb.size⟩
theorem Sys.lt (h : Sys w p gs S F) : ∀ q, F q → q < w.heap.size := by
  obtain ⟨_, _, _, _, _, _, _, h2⟩ := h
  exact h2
theorem but_step {U : Nat → Prop} {w'' : World} (h : But T w w') (h' : But U w' w'') (hu : ∀ q, U q → T q ∨ w.heap.size ≤ q) : But T w w'' :=
  ⟨h'.os.trans h.os, h'.tape.trans h.tape, h'.output.trans h.output, Nat.le_trans h.size h'.size, fun k hk hT => (h'.block k (Nat.lt_of_lt_of_le hk h.size) (fun hU => by
    rcases hu k hU with h1 | h1
    · exact hT h1
    · omega)).trans (h.block k hk hT)⟩
/-- What is done to one device. -/
theorem SysR.upd (h : SysR w p gs bs S Fs FA fc lf) {k : Nat} (hk : k < S.ds.length) (hb : But (Fs k) w w') {d : Dv} (hd : DevAt w' p (gs.getD k 0) d (grow (Fs k) w w')) :
    SysR w' p gs bs (S.put k d) (fun i => if i = k then grow (Fs k) w w' else Fs i) FA fc lf := by
  have hbox : ∀ j, j < S.ds.length → ¬ Fs k (bs.getD j 0) := fun j hj hq => (h.other k _ hk hq).2.2 j hj rfl
  have hbl : ∀ j, j < S.ds.length → bs.getD j 0 < w.heap.size := fun j hj => (h.box j hj).lt
  have hpl := h.pow.blk.lt
  refine ⟨h.pow.but hb (fun hq => (h.other k _ hk hq).1 rfl) (fun q hq hq' => (h.other k _ hk hq').2.1 q hq rfl), by rw [len_put]; exact h.gl, by rw [len_put]; exact h.bl, ?_, ?_, ?_, ?_, ?_⟩
  · intro i hi
    rw [len_put] at hi
    rw [at_put _ hk]
    by_cases e : i = k
    · subst e; rw [if_pos rfl, if_pos rfl]; exact hd
    · rw [if_neg e, if_neg (fun e' => e e'.symm)]
      exact (h.dev i hi).but hb (fun q h1 h2 => h.apart i k q hi hk e h1 h2)
  · intro i hi
    rw [len_put] at hi
    exact (h.box i hi).but hb (hbox i hi)
  · intro i j q hi hj hne h1 h2
    rw [len_put] at hi hj
    by_cases ei : i = k
    · subst ei
      rw [if_pos rfl] at h1
      rw [if_neg (fun e => hne e.symm)] at h2
      rcases h1 with h1 | h1
      · exact h.apart i j q hi hj hne h1 h2
      · have := h.lt j q hj h2; omega
    · rw [if_neg ei] at h1
      by_cases ej : j = k
      · subst ej
        rw [if_pos rfl] at h2
        rcases h2 with h2 | h2
        · exact h.apart i j q hi hj hne h1 h2
        · have := h.lt i q hi h1; omega
      · rw [if_neg ej] at h2
        exact h.apart i j q hi hj hne h1 h2
  · intro i q hi hq
    rw [len_put] at hi
    by_cases e : i = k
    · subst e
      rw [if_pos rfl] at hq
      rcases hq with hq | hq
      · exact Nat.lt_of_lt_of_le (h.lt i q hi hq) hb.size
      · exact hq.2
    · rw [if_neg e] at hq
      exact Nat.lt_of_lt_of_le (h.lt i q hi hq) hb.size
  · intro i q hi hq
    rw [len_put] at hi
    by_cases e : i = k
    · subst e
      rw [if_pos rfl] at hq
      rcases hq with hq | hq
      · have := h.other i q hi hq
        exact ⟨this.1, this.2.1, fun j hj => this.2.2 j (by rw [len_put] at hj; exact hj)⟩
      · refine ⟨by omega, fun j hj => ?_, fun j hj => ?_⟩
        · have := (h.pow.row.lt j hj).2; omega
        · rw [len_put] at hj; have := hbl j hj; omega
    · rw [if_neg e] at hq
      have := h.other i q hi hq
      exact ⟨this.1, this.2.1, fun j hj => this.2.2 j (by rw [len_put] at hj; exact hj)⟩
/-- .. as a call tells it. -/
theorem SysR.ret (h : SysR w p gs bs S Fs FA fc lf) (hF : ∀ q, SysF p bs Fs FA fc S.ds.length q → F q) (hl : ∀ q, F q → q < w.heap.size) {k : Nat} (hk : k < S.ds.length) (hb : But (Fs k) w w') {d : Dv} (hd : DevAt w' p (gs.getD k 0) d (grow (Fs k) w w')) :
    ∃ F', Sys w' p gs (S.put k d) F' ∧ (∀ q, F' q → F q ∨ w.heap.size ≤ q) ∧ But F w w' := by
  refine ⟨grow F w w', ⟨bs, _, FA, fc, lf, h.upd hk hb hd, ?_, ?_⟩, ?_, hb.mono (fun q hq => hF q (.inr (.inr (.inr ⟨k, hk, hq⟩))))⟩
  · rintro q (hq | hq | ⟨j, hj, hq⟩ | ⟨i, hi, hq⟩)
    · exact .inl (hF q (.inl hq))
    · exact .inl (hF q (.inr (.inl hq)))
    · rw [len_put] at hj; exact .inl (hF q (.inr (.inr (.inl ⟨j, hj, hq⟩))))
    · rw [len_put] at hi
      by_cases e : i = k
      · subst e
        rw [if_pos rfl] at hq
        rcases hq with hq | hq
        · exact .inl (hF q (.inr (.inr (.inr ⟨i, hi, hq⟩))))
        · exact .inr hq
      · rw [if_neg e] at hq
        exact .inl (hF q (.inr (.inr (.inr ⟨i, hi, hq⟩))))
  · rintro q (hq | hq)
    · exact Nat.lt_of_lt_of_le (hl q hq) hb.size
    · exact hq.2
  · rintro q (hq | hq)
    · exact .inl hq
    · exact .inr hq.1
end
set_option maxRecDepth 100000 in
set_option maxHeartbeats 1600000 in
theorem new1_any {w : World} {p g b : Nat} {d : Dv} {A : Option Addr} {n c : Nat} {W : Option Addr} {m e M : Nat} {D : DataW Unit} (h : DevR w p g d A n c W m e M D) (hb : Blk w b #[.pointer (some ⟨g, 0, none⟩)] 30) :
    Calls Try.prog 34 #[.pointer (some ⟨b, 0, none⟩)] w (fun e' w' => e' = .returned (.tuple #[]) ∧ ∃ M', DevR w' p g d.fall A n c none 0 0 M' (.map []) ∧ w.heap.size ≤ M' ∧ But (fun q => q = g ∨ (Value.slice A n c).ownBlock = some q) w w') := by
  have H := Lib.hid h
  have c4 : w.cell? ⟨g, 4, none⟩ = some (.int .i64 d.kept) := h.blk.cell 4
  have c5 : w.cell? ⟨g, 5, none⟩ = some (.int .i64 d.bytes) := h.blk.cell 5
  have cb : w.cell? ⟨b, 0, none⟩ = some (.pointer (some ⟨g, 0, none⟩)) := hb.cell 0
  have HF := Lib.hid (fall_is_settle h.ok.kept h.idle)
  clear h hb
  go_enter Try.func34, Try.ntmps34
  go_wp2_with fail
  refine wp_region_still_tail 9 (by kernel_rfl) (by kernel_rfl) ?_
  simp only [List.take_succ_cons, List.take_zero, List.drop_succ_cons, List.drop_zero]
  iterate 9 still_step
  refine wpStill_nil ?_
  change wpList _ _ _ _ _ w.drew
  have hd : DevR w.drew p g d A n c W m e M D := H.out.but (S := fun _ => False) ((But.refl _).drew) (fun _ _ h => h)
  go_wp2_with fail
  refine (settle_any hd d.kept d.bytes H.out.ok.kept H.out.ok.bytes.1 H.out.ok.bytes.2).mono ?_
  rintro e2 w2 ⟨rfl, M', h1, h2, h3⟩
  have E1 := Lib.hid h1
  have E2 := Lib.hid h2
  have E3 := Lib.hid h3
  clear hd h1 h2 h3 c4 c5 cb
  go_wp2_with fail
  refine bodyPost_end (results_none Try.results34 _ _ _) rfl ⟨rfl, M', by rw [HF.out]; exact E1.out, E2.out, (But.refl w).drew.trans E3.out⟩
theorem new1_at {w : World} {p g b : Nat} {d : Dv} {F : Nat → Prop} (h : DevAt w p g d F) (hb : Blk w b #[.pointer (some ⟨g, 0, none⟩)] 30) :
    Calls Try.prog 34 #[.pointer (some ⟨b, 0, none⟩)] w (fun e' w' => e' = .returned (.tuple #[]) ∧ DevAt w' p g d.fall (grow F w w') ∧ But F w w') := by
  obtain ⟨A, n, c, W, m, e, M, D, h, hF⟩ := h
  refine (new1_any h hb).mono ?_
  rintro e2 w2 ⟨rfl, M', h1, h2, h3⟩
  refine ⟨rfl, ⟨A, n, c, none, 0, 0, M', _, h1, ?_⟩, h3.mono ?_⟩
  · rintro q (rfl | rfl | hq | hq)
    · exact .inl (hF _ (.inl rfl))
    · exact .inr ⟨h2, h1.map.lt⟩
    · exact .inl (hF _ (.inr (.inr (.inl hq))))
    · cases hq
  · rintro q (rfl | hq)
    · exact hF _ (.inl rfl)
    · exact hF _ (.inr (.inr (.inl hq)))
end Go.Proofs.Ytolbffcbamfbeaa.Kd
