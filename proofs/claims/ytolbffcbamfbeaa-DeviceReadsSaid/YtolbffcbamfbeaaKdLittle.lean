/-
  The contracts of a device's and a power's little functions.
-/
import Derived.Test.YtolbffcbamfbeaaKdEmpty
namespace Go.Proofs.Ytolbffcbamfbeaa.Kd
open Go.RowKit Go.Maps
attribute [local go_sem ↓] Go.wp_at_zero Go.wp_at_succ
/-- It returns v, and does nothing. -/
def Ret0 (v : Value) (w : World) (e : Ending) (w' : World) : Prop := e = .returned v ∧ w = w'
section
variable {w : World} {p g : Nat} {PV SV WV MV KV BV LV GV : Value}
theorem on_any (o : Bool) (l f : Value) (hp : Blk w p #[.bool o, l, f] 70) : Calls Try.prog 18 #[.pointer (some ⟨p, 0, none⟩)] w (Ret0 (.bool o) w) := by
  have c0 : w.cell? ⟨p, 0, none⟩ = some (.bool o) := hp.cell 0
  go_enter Try.func18, Try.ntmps18
  go_wp2_with fail
  go_ret
  exact ⟨rfl, rfl⟩
theorem on_nil : Calls Try.prog 18 #[.pointer none] w (Ret0 (.bool false) w) := by
  go_enter Try.func18, Try.ntmps18
  go_wp2_with fail
  go_ret
  exact ⟨rfl, rfl⟩
theorem len_any (A : Option Addr) (n c : Nat) (hp : Blk w g #[PV, .slice A n c, WV, MV, KV, BV, LV, GV] 74) : Calls Try.prog 19 #[.pointer (some ⟨g, 0, none⟩)] w (Ret0 (.int .i64 (n : Int)) w) := by
  have c1 : w.cell? ⟨g, 1, none⟩ = some (.slice A n c) := hp.cell 1
  go_enter Try.func19, Try.ntmps19
  go_wp2_with fail
  go_ret
  exact ⟨rfl, rfl⟩
theorem len_nil : Calls Try.prog 19 #[.pointer none] w (Ret0 (.int .i64 0) w) := by
  go_enter Try.func19, Try.ntmps19
  go_wp2_with fail
  go_ret
  exact ⟨rfl, rfl⟩
theorem waiting_any (A : Option Addr) (n c : Nat) (hp : Blk w g #[PV, SV, .slice A n c, MV, KV, BV, LV, GV] 74) : Calls Try.prog 20 #[.pointer (some ⟨g, 0, none⟩)] w (Ret0 (.int .i64 (n : Int)) w) := by
  have c1 : w.cell? ⟨g, 2, none⟩ = some (.slice A n c) := hp.cell 2
  go_enter Try.func20, Try.ntmps20
  go_wp2_with fail
  go_ret
  exact ⟨rfl, rfl⟩
theorem waiting_nil : Calls Try.prog 20 #[.pointer none] w (Ret0 (.int .i64 0) w) := by
  go_enter Try.func20, Try.ntmps20
  go_wp2_with fail
  go_ret
  exact ⟨rfl, rfl⟩
/-- Is it down? -/
def downN (o gn : Bool) : Int := if o || gn then 13 else 0
theorem runs_any (o gn : Bool) (l f : Value) (hp : Blk w p #[.bool (!o), l, f] 70) (hg : Blk w g #[.pointer (some ⟨p, 0, none⟩), SV, WV, MV, KV, BV, LV, .bool gn] 74) :
    Calls Try.prog 45 #[.pointer (some ⟨g, 0, none⟩)] w (Ret0 (.int .i64 (downN o gn)) w) := by
  have c7 : w.cell? ⟨g, 7, none⟩ = some (.bool gn) := hg.cell 7
  have c0 : w.cell? ⟨g, 0, none⟩ = some (.pointer (some ⟨p, 0, none⟩)) := hg.cell 0
  have HP := Lib.hid hp
  clear hp
  cases gn
  · cases o
    · go_enter Try.func45, Try.ntmps45
      go_wp2_with (refine (on_any true l f HP.out).mono ?_; rintro e w' ⟨rfl, rfl⟩)
      go_ret
      exact ⟨rfl, rfl⟩
    · go_enter Try.func45, Try.ntmps45
      go_wp2_with (refine (on_any false l f HP.out).mono ?_; rintro e w' ⟨rfl, rfl⟩)
      go_ret
      exact ⟨rfl, rfl⟩
  · go_enter Try.func45, Try.ntmps45
    go_wp2_with fail
    go_ret
    exact ⟨by cases o <;> rfl, rfl⟩
theorem runs_nil : Calls Try.prog 45 #[.pointer none] w (Ret0 (.int .i64 1) w) := by
  go_enter Try.func45, Try.ntmps45
  go_wp2_with fail
  go_ret
  exact ⟨rfl, rfl⟩
theorem has_any (A : Option Addr) (n c : Nat) (i : Int) (hp : Blk w g #[PV, .slice A n c, WV, MV, KV, BV, LV, GV] 74) : Calls Try.prog 46 #[.pointer (some ⟨g, 0, none⟩), .int .i64 i] w (Ret0 (.bool (decide (0 ≤ i) && decide (i < (n : Int)))) w) := by
  have HP := Lib.hid hp
  clear hp
  by_cases hi : 0 ≤ i
  · have di : decide (i ≥ 0) = true := decide_eq_true hi
    have HI := Lib.hid (show (decide (0 ≤ i) && decide (i < (n : Int))) = decide (i < (n : Int)) by rw [decide_eq_true hi]; rfl)
    go_enter Try.func46, Try.ntmps46
    go_wp2_with (refine (len_any A n c HP.out).mono ?_; rintro e w' ⟨rfl, rfl⟩)
    go_ret
    exact ⟨by first | rfl | (rw [HI.out]; rfl), rfl⟩
  · have di : decide (i ≥ 0) = false := decide_eq_false hi
    have HI := Lib.hid (show (decide (0 ≤ i) && decide (i < (n : Int))) = false by rw [decide_eq_false hi]; rfl)
    go_enter Try.func46, Try.ntmps46
    go_wp2_with fail
    go_ret
    exact ⟨by first | rfl | rw [HI.out], rfl⟩
theorem has_nil (i : Int) : Calls Try.prog 46 #[.pointer none, .int .i64 i] w (Ret0 (.bool false) w) := by
  by_cases hi : 0 ≤ i
  · have di : decide (i ≥ 0) = true := decide_eq_true hi
    have d2 : decide (i < 0) = false := decide_eq_false (by omega)
    go_enter Try.func46, Try.ntmps46
    go_wp2_with (refine len_nil.mono ?_; rintro e w' ⟨rfl, rfl⟩)
    go_ret
    exact ⟨by first | rfl | simp; omega, rfl⟩
  · have di : decide (i ≥ 0) = false := decide_eq_false hi
    go_enter Try.func46, Try.ntmps46
    go_wp2_with fail
    go_ret
    exact ⟨by first | rfl | simp; omega, rfl⟩
/-- What a device tells of a sector: 13 down, 2 none there, 0 fine. -/
def reachN (o gn : Bool) (n : Nat) (i : Int) : Int := if o || gn then 13 else if i < 0 ∨ (n : Int) ≤ i then 2 else 0
theorem reach_refuse {P : Pw} {d : Dv} {n : Nat} (h : d.st.length = n) (i : Int) : refuseN P d i = reachN P.off d.gone n i := by unfold refuseN reachN; rw [h]
theorem reaches_any (o gn : Bool) (l f : Value) (A : Option Addr) (n c : Nat) (i : Int) (hp : Blk w p #[.bool (!o), l, f] 70) (hg : Blk w g #[.pointer (some ⟨p, 0, none⟩), .slice A n c, WV, MV, KV, BV, LV, .bool gn] 74) :
    Calls Try.prog 43 #[.pointer (some ⟨g, 0, none⟩), .int .i64 i] w (Ret0 (.int .i64 (reachN o gn n i)) w) := by
  have HP := Lib.hid hp
  have HG := Lib.hid hg
  clear hp hg
  by_cases hd : (o || gn) = true
  · have HD := Lib.hid hd
    go_enter Try.func43, Try.ntmps43
    go_wp2_with (refine (runs_any o gn l f HP.out HG.out).mono ?_; rintro e w' ⟨rfl, rfl⟩; unfold downN; rw [if_pos HD.out])
    go_ret
    exact ⟨by unfold reachN; rw [if_pos HD.out]; first | done | rfl, rfl⟩
  · have HD := Lib.hid hd
    clear hd
    by_cases hi : i < 0 ∨ (n : Int) ≤ i
    · have HB := Lib.hid (show (decide (0 ≤ i) && decide (i < (n : Int))) = false by
        rcases hi with h | h
        · rw [decide_eq_false (by omega)]; rfl
        · rw [decide_eq_false (show ¬ i < (n : Int) by omega), Bool.and_false])
      have HI := Lib.hid hi
      clear hi
      go_enter Try.func43, Try.ntmps43
      go_wp2_with (first
        | (refine (runs_any o gn l f HP.out HG.out).mono ?_; rintro e w' ⟨rfl, rfl⟩; unfold downN; rw [if_neg HD.out])
        | (refine (has_any A n c i HG.out).mono ?_; rintro e w' ⟨rfl, rfl⟩; rw [HB.out]))
      go_ret
      exact ⟨by unfold reachN; rw [if_neg HD.out, if_pos HI.out]; first | done | rfl, rfl⟩
    · have HB := Lib.hid (show (decide (0 ≤ i) && decide (i < (n : Int))) = true by rw [decide_eq_true (show 0 ≤ i by omega), decide_eq_true (show i < (n : Int) by omega)]; rfl)
      have HI := Lib.hid hi
      clear hi
      go_enter Try.func43, Try.ntmps43
      go_wp2_with (first
        | (refine (runs_any o gn l f HP.out HG.out).mono ?_; rintro e w' ⟨rfl, rfl⟩; unfold downN; rw [if_neg HD.out])
        | (refine (has_any A n c i HG.out).mono ?_; rintro e w' ⟨rfl, rfl⟩; rw [HB.out]))
      go_ret
      exact ⟨by unfold reachN; rw [if_neg HD.out, if_neg HI.out]; first | done | rfl, rfl⟩
theorem reaches_nil (i : Int) : Calls Try.prog 43 #[.pointer none, .int .i64 i] w (Ret0 (.int .i64 1) w) := by
  go_enter Try.func43, Try.ntmps43
  go_wp2_with (refine runs_nil.mono ?_; rintro e w' ⟨rfl, rfl⟩)
  go_ret
  exact ⟨rfl, rfl⟩
/-! ### What is told to a device, and to power -/
theorem tear_any (k b : Int) (x y : Int) (hp : Blk w g #[PV, SV, WV, MV, .int .i64 k, .int .i64 b, LV, GV] 74) :
    Calls Try.prog 27 #[.pointer (some ⟨g, 0, none⟩), .int .i64 x, .int .i64 y] w (fun e w' => e = .returned (.tuple #[]) ∧ Blk w' g #[PV, SV, WV, MV, .int .i64 (keptN x), .int .i64 (bytesN y), LV, GV] 74 ∧ But (fun k => k = g) w w') := by
  have HP := Lib.hid hp
  have c4 : w.cell? ⟨g, 4, none⟩ = some (.int .i64 k) := hp.cell 4
  have c5 : w.cell? ⟨g, 5, none⟩ = some (.int .i64 b) := hp.cell 5
  have f4 := hp.free 4
  have f5 := hp.free 5
  clear hp
  go_enter Try.func27, Try.ntmps27
  go_wp2_with fail
  all_goals
    refine bodyPost_end (results_none Try.results27 _ _ _) rfl ⟨rfl, blk_eq8 (blk_setN8 (blk_setN8 HP.out 4 _) 5 _) ?_, But.setCell (S := fun k => k = g) (but_one _) (Or.inl (show g = g from rfl)) _⟩
    simp only [List.setIfInBounds_toArray, List.set_cons_succ, List.set_cons_zero, Array.mk.injEq, List.cons.injEq, Value.int.injEq, true_and, and_true, keptN, bytesN]
    omega
theorem tear_nil (x y : Int) : Calls Try.prog 27 #[.pointer none, .int .i64 x, .int .i64 y] w (Ret0 (.tuple #[]) w) := by
  go_enter Try.func27, Try.ntmps27
  go_wp2_with fail
  refine bodyPost_end (results_none Try.results27 _ _ _) rfl ⟨rfl, rfl⟩
theorem lie_any (on : Bool) (hp : Blk w g #[PV, SV, WV, MV, KV, BV, LV, GV] 74) :
    Calls Try.prog 30 #[.pointer (some ⟨g, 0, none⟩), .bool on] w (fun e w' => e = .returned (.tuple #[]) ∧ Blk w' g #[PV, SV, WV, MV, KV, BV, .bool on, GV] 74 ∧ But (fun k => k = g) w w') := by
  have HP := Lib.hid hp
  have c6 : w.cell? ⟨g, 6, none⟩ = some LV := hp.cell 6
  have f6 := hp.free 6
  clear hp
  go_enter Try.func30, Try.ntmps30
  go_wp2_with fail
  refine bodyPost_end (results_none Try.results30 _ _ _) rfl ⟨rfl, blk_setN8 HP.out 6 _, but_one _⟩
theorem lie_nil (on : Bool) : Calls Try.prog 30 #[.pointer none, .bool on] w (Ret0 (.tuple #[]) w) := by
  go_enter Try.func30, Try.ntmps30
  go_wp2_with fail
  refine bodyPost_end (results_none Try.results30 _ _ _) rfl ⟨rfl, rfl⟩
/-- What Fail keeps of what it is told. -/
def failN (x : Int) : Int := max x (-1)
theorem fail_any (x : Int) (ov lv fv : Value) (hp : Blk w p #[ov, lv, fv] 70) :
    Calls Try.prog 28 #[.pointer (some ⟨p, 0, none⟩), .int .i64 x] w (fun e w' => e = .returned (.tuple #[]) ∧ Blk w' p #[ov, .int .i64 (failN x), fv] 70 ∧ But (fun k => k = p) w w') := by
  have HP := Lib.hid hp
  have c1 : w.cell? ⟨p, 1, none⟩ = some lv := hp.cell 1
  have f1 := hp.free 1
  clear hp
  go_enter Try.func28, Try.ntmps28
  go_wp2_with fail
  all_goals
    refine bodyPost_end (results_none Try.results28 _ _ _) rfl ⟨rfl, blk_eq8 (blk_setN8 HP.out 1 _) ?_, but_one _⟩
    simp only [List.setIfInBounds_toArray, List.set_cons_succ, List.set_cons_zero, Array.mk.injEq, List.cons.injEq, Value.int.injEq, true_and, and_true, failN]
    omega
theorem fail_nil (x : Int) : Calls Try.prog 28 #[.pointer none, .int .i64 x] w (Ret0 (.tuple #[]) w) := by
  go_enter Try.func28, Try.ntmps28
  go_wp2_with fail
  refine bodyPost_end (results_none Try.results28 _ _ _) rfl ⟨rfl, rfl⟩
theorem restart_any (ov lv fv : Value) (hp : Blk w p #[ov, lv, fv] 70) :
    Calls Try.prog 29 #[.pointer (some ⟨p, 0, none⟩)] w (fun e w' => e = .returned (.tuple #[]) ∧ Blk w' p #[.bool true, .int .i64 (-1), fv] 70 ∧ But (fun k => k = p) w w') := by
  have HP := Lib.hid hp
  have c0 : w.cell? ⟨p, 0, none⟩ = some ov := hp.cell 0
  have c1 : w.cell? ⟨p, 1, none⟩ = some lv := hp.cell 1
  have f0 := hp.free 0
  have f1 := hp.free 1
  clear hp
  go_enter Try.func29, Try.ntmps29
  go_wp2_with fail
  refine bodyPost_end (results_none Try.results29 _ _ _) rfl ⟨rfl, blk_setN8 (blk_setN8 HP.out 0 _) 1 _, But.setCell (S := fun k => k = p) (but_one _) (Or.inl (show p = p from rfl)) _⟩
theorem restart_nil : Calls Try.prog 29 #[.pointer none] w (Ret0 (.tuple #[]) w) := by
  go_enter Try.func29, Try.ntmps29
  go_wp2_with fail
  refine bodyPost_end (results_none Try.results29 _ _ _) rfl ⟨rfl, rfl⟩
theorem newPower_any : Calls Try.prog 13 #[] w (fun e w' => e = .returned (.pointer (some ⟨w.heap.size, 0, none⟩)) ∧ Blk w' w.heap.size #[.bool true, .int .i64 (-1), .slice none 0 0] 70 ∧ Below w.heap.size w w') := by
  go_enter Try.func13, Try.ntmps13
  go_wp2_with fail
  go_ret
  exact ⟨rfl, heap_alloc_new _ _, (Below.refl _ _).alloc (Nat.le_refl _) _⟩
end
end Go.Proofs.Ytolbffcbamfbeaa.Kd
