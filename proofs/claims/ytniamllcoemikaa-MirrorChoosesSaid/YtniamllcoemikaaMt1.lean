/-
  Texts of this seat, one behind the other: ScStart, ScAgainP, ScRef, ScRAll, ScStepsP.
-/
import Derived.Test.YtniamllcoemikaaMs4
/-
  The mirror that pair makes, as the document tells of it; with a device that is out nothing counts. No program.
-/
namespace Go.Proofs.Ytniamllcoemikaa.Sc
open Kd Mi
def startM (L0 L1 : List (List UInt8)) (k : Nat) : Md := ⟨L0, L1, false, false, List.replicate k false, List.replicate k false⟩
theorem start_fresh {L0 L1 : List (List UInt8)} {k : Nat} (h0 : L0.length = k) (h1 : L1.length = k) : Fresh (startM L0 L1 k) k := ⟨rfl, rfl, h0, h1, rfl, rfl⟩
theorem start_len {L0 L1 : List (List UInt8)} {k : Nat} : (startM L0 L1 k).a.length = k := List.length_replicate
variable {f : Int → List UInt8 → Bool} {x : Md}
theorem down_heal (hd : (x.o0 || x.o1) = true) {n : Nat} (hn : n < x.a.length) : x.heal f n = ((0, 13), x) := by
  rw [Md.heal, show x.has (n : Int) = true by rw [Md.has]; simp; omega, if_pos rfl, if_pos hd]
theorem down_step (hd : (x.o0 || x.o1) = true) {n : Nat} (hn : n < x.a.length) : mdStep f (x, ⟨n, 0, 0, 0⟩) = (((n : Int), true), (x, ⟨n + 1, 0, 0, 0⟩)) := by
  rw [mdStep, if_neg (by show ¬ x.a.length ≤ n; omega)]
  show (((n : Int), true), ((x.heal f n).2, Wk.step ⟨n, 0, 0, 0⟩ (x.heal f n).1)) = _
  rw [down_heal hd hn, Wk.step, if_neg (show ¬ ((13 : Int) = 0) by decide)]
theorem down_run (hd : (x.o0 || x.o1) = true) : ∀ k, k ≤ x.a.length → mdRun f (x, Wk.zero) k = (x, ⟨k, 0, 0, 0⟩)
  | 0, _ => rfl
  | k + 1, hk => by rw [mdRun, down_run hd k (by omega), down_step hd (by omega)]
end Go.Proofs.Ytniamllcoemikaa.Sc
/-
  Scrubbed again: what isn't lost is right. No program.
-/
namespace Go.Proofs.Ytniamllcoemikaa.Sc
open Kd Mi
variable {f : Int → List UInt8 → Bool} {x : Md} {n : Nat}
theorem good_hl0 (k : Nat) (u v : List UInt8) : f k (hl0 f k u v) = (f k u || f k v) := by
  unfold hl0
  cases h : f k u with
  | true => exact h
  | false =>
    cases h' : f k v with
    | true => exact h'
    | false => exact h
theorem good_hl1 (k : Nat) (u v : List UInt8) : f k (hl1 f k u v) = (f k u || f k v) := by
  unfold hl1
  cases h : f k u with
  | true => exact h
  | false => rfl
theorem ck_lost (k : Nat) (u v : List UInt8) : ck f k u v = 2 ↔ (f k u || f k v) = false := by
  unfold ck
  cases f k u <;> cases f k v <;> simp
  by_cases e : u = v <;> simp [e]
theorem ck_three (k : Nat) (u v : List UInt8) : ck f k u v = 0 ∨ ck f k u v = 1 ∨ ck f k u v = 2 := by
  unfold ck
  split
  · exact .inr (.inr rfl)
  · split
    · exact .inl rfl
    · exact .inr (.inl rfl)
theorem ck_again (k : Nat) (u v : List UInt8) : ck f k (hl0 f k u v) (hl1 f k u v) = if ck f k u v = 2 then 2 else 0 := by
  by_cases h : (f k u || f k v) = false
  · rw [if_pos ((ck_lost k u v).2 h), (ck_lost k _ _).2 (by rw [good_hl0 (f := f), good_hl1 (f := f), h]; rfl)]
  · rw [if_neg (fun e => h ((ck_lost k u v).1 e))]
    have h1 : (f k u || f k v) = true := by cases h2 : (f k u || f k v) <;> simp_all
    have h3 : hl0 f k u v = hl1 f k u v := by
      unfold hl0 hl1
      cases h4 : f k u with
      | true => simp
      | false =>
        rw [h4] at h1
        have h5 : f k v = true := by simpa using h1
        simp [h5]
    unfold ck
    rw [good_hl0 (f := f), good_hl1 (f := f), h1, decide_eq_true h3]; rfl
theorem step_r (y : Wk) (c : Int) : (y.step (c, 0)).r = y.r + (if c = 0 then 1 else 0) ∧ (y.step (c, 0)).h = y.h + (if c = 0 then 0 else if c = 1 then 1 else 0) ∧ (y.step (c, 0)).l = y.l + (if c = 0 then 0 else if c = 1 then 0 else 1) := by
  rw [Wk.step, if_pos rfl, Wk.add]
  by_cases h0 : c = 0
  · simp [h0]
  · by_cases h1 : c = 1
    · simp [h1]
    · simp [h0, h1]
/-- What the places count as together. -/
theorem cnt_sum (l0 l1 : List (List UInt8)) : ∀ k, (cntK f l0 l1 k).r + (cntK f l0 l1 k).h + (cntK f l0 l1 k).l = k
  | 0 => rfl
  | k + 1 => by
    obtain ⟨h1, h2, h3⟩ := step_r (cntK f l0 l1 k) (ck f k (l0.getD k zeroS) (l1.getD k zeroS))
    have h4 := cnt_sum l0 l1 k
    rw [cntK, h1, h2, h3]
    by_cases e0 : ck f k (l0.getD k zeroS) (l1.getD k zeroS) = 0
    · simp only [if_pos e0]; omega
    · by_cases e1 : ck f k (l0.getD k zeroS) (l1.getD k zeroS) = 1
      · simp only [if_neg e0, if_pos e1]; omega
      · simp only [if_neg e0, if_neg e1]; omega
/-- .. and scrubbed again. -/
theorem cnt_again (l0 l1 m0 m1 : List (List UInt8)) : ∀ k, (∀ j, j < k → m0.getD j zeroS = hl0 f j (l0.getD j zeroS) (l1.getD j zeroS)) → (∀ j, j < k → m1.getD j zeroS = hl1 f j (l0.getD j zeroS) (l1.getD j zeroS)) →
    (cntK f m0 m1 k).r = (cntK f l0 l1 k).r + (cntK f l0 l1 k).h ∧ (cntK f m0 m1 k).h = 0 ∧ (cntK f m0 m1 k).l = (cntK f l0 l1 k).l
  | 0, _, _ => ⟨rfl, rfl, rfl⟩
  | k + 1, h0, h1 => by
    obtain ⟨i1, i2, i3⟩ := cnt_again l0 l1 m0 m1 k (fun j hj => h0 j (by omega)) (fun j hj => h1 j (by omega))
    obtain ⟨s1, s2, s3⟩ := step_r (cntK f l0 l1 k) (ck f k (l0.getD k zeroS) (l1.getD k zeroS))
    obtain ⟨t1, t2, t3⟩ := step_r (cntK f m0 m1 k) (ck f k (m0.getD k zeroS) (m1.getD k zeroS))
    rw [cntK, cntK, s1, s2, s3, t1, t2, t3, h0 k (by omega), h1 k (by omega), ck_again, i1, i2, i3]
    rcases ck_three (f := f) k (l0.getD k zeroS) (l1.getD k zeroS) with e | e | e
    · rw [e]; simp; omega
    · rw [e]; simp; omega
    · rw [e]; simp
theorem fresh_both (h : Fresh x n) {k : Nat} (hk : k < n) : (x.both f k).length = (if f k (x.l0.getD k zeroS) then 1 else 0) + (if f k (x.l1.getD k zeroS) then 1 else 0) := by
  rw [Md.both, h.has hk, if_pos rfl, Int.toNat_natCast, Md.bothTo, Md.bothTo, Md.bothTo, show x.o 0 = false from h.o0, show x.o 1 = false from h.o1, show x.l 0 = x.l0 from rfl, show x.l 1 = x.l1 from rfl]
  cases f k (x.l0.getD k zeroS) <;> cases f k (x.l1.getD k zeroS) <;> rfl
/-- A mirror that was scrubbed twice. -/
theorem again_all (h : Fresh x n) : ∃ x1 x2 : Md, mdRun f (x, Wk.zero) n = (x1, cntK f x.l0 x.l1 n) ∧ (∃ c2, mdRun f (x1, Wk.zero) n = (x2, c2) ∧ c2.r = (cntK f x.l0 x.l1 n).r + (cntK f x.l0 x.l1 n).h ∧ c2.h = 0 ∧ c2.l = (cntK f x.l0 x.l1 n).l) ∧ Fresh x1 n ∧ Fresh x2 n ∧
    (∀ k, k < n → ((x2.both f k).length = 0 ↔ ck f k (x.l0.getD k zeroS) (x.l1.getD k zeroS) = 2)) := by
  obtain ⟨h1, h2, h3, h4⟩ := h.run (f := f) n (Nat.le_refl _)
  obtain ⟨k1, k2, k3, k4⟩ := h1.run (f := f) n (Nat.le_refl _)
  have e0 : ∀ j, j < n → (mdRun f (x, Wk.zero) n).1.l0.getD j zeroS = hl0 f j (x.l0.getD j zeroS) (x.l1.getD j zeroS) := fun j hj => by rw [h3 j hj, if_pos hj]
  have e1 : ∀ j, j < n → (mdRun f (x, Wk.zero) n).1.l1.getD j zeroS = hl1 f j (x.l0.getD j zeroS) (x.l1.getD j zeroS) := fun j hj => by rw [h4 j hj, if_pos hj]
  obtain ⟨a1, a2, a3⟩ := cnt_again x.l0 x.l1 _ _ n e0 e1
  refine ⟨(mdRun f (x, Wk.zero) n).1, (mdRun f ((mdRun f (x, Wk.zero) n).1, Wk.zero) n).1, by rw [← h2], ⟨_, by rw [← k2], a1, a2, a3⟩, h1, k1, fun k hk => ?_⟩
  rw [fresh_both k1 hk, k3 k hk, k4 k hk, if_pos hk, if_pos hk, good_hl0 (f := f), good_hl1 (f := f), e0 k hk, e1 k hk, good_hl0 (f := f), good_hl1 (f := f), ck_lost]
  cases h5 : (f k (x.l0.getD k zeroS) || f k (x.l1.getD k zeroS)) <;> simp
theorem cnt_lost (l0 l1 : List (List UInt8)) (k : Nat) : (cntK f l0 l1 (k + 1)).l = (cntK f l0 l1 k).l + if ck f k (l0.getD k zeroS) (l1.getD k zeroS) = 2 then 1 else 0 := by
  rw [cntK, (step_r _ _).2.2]
  rcases ck_three (f := f) k (l0.getD k zeroS) (l1.getD k zeroS) with e | e | e <;> rw [e] <;> simp
end Go.Proofs.Ytniamllcoemikaa.Sc
/-
  The contracts of the reference's Counts, Healed, All.
-/
namespace Go.Proofs.Ytniamllcoemikaa.Sc
open Go.RowKit Kd Mi
attribute [local go_sem ↓] Go.wp_at_zero Go.wp_at_succ
theorem two_boxesS (w : World) (u v : List UInt8) : ∃ w2, w2 = (w.alloc (.cells (bva u) 37)).alloc (.cells (bva v) 37) ∧ Blk w2 w.heap.size (bva u) 37 ∧ Blk w2 (w.heap.size + 1) (bva v) 37 ∧ Below w.heap.size w w2 := by
  have hsz : (w.alloc (.cells (bva u) 37)).heap.size = w.heap.size + 1 := Array.size_push _
  refine ⟨_, rfl, Blk.below (w := w.alloc (.cells (bva u) 37)) (heap_alloc_new _ _) ((Below.refl _ _).alloc (Nat.le_refl _) _), ?_, ?_⟩
  · rw [← hsz]; exact heap_alloc_new _ _
  · have b1 : Below w.heap.size w (w.alloc (.cells (bva u) 37)) := (Below.refl _ _).alloc (Nat.le_refl _) _
    exact b1.alloc b1.size _
set_option maxRecDepth 100000 in
set_option maxHeartbeats 6400000 in
theorem rcounts_any (w : World) (n : Nat) (u v : List UInt8) (hu : u.length = 128) (hv : v.length = 128) : Calls Try.prog 62 #[.int .i64 n, .agg (bva u), .agg (bva v)] w (RetB (.int .i64 (ck goodN n u v)) w) := by
  obtain ⟨w2, hw2, hX, hY, hB⟩ := two_boxesS w u v
  have X := Lib.hid hX
  have Y := Lib.hid hY
  have BB := Lib.hid hB
  have HIU : Hid ((Try.prog.info? 37).map (·.size) = some (bva u).size) := by rw [bva_size, hu]; exact info_sec
  have HIV : Hid ((Try.prog.info? 37).map (·.size) = some (bva v).size) := by rw [bva_size, hv]; exact info_sec
  have HU3 := Lib.hid hu
  have HV3 := Lib.hid hv
  obtain ⟨a, ha⟩ : ∃ a, a = goodN n u := ⟨_, rfl⟩
  obtain ⟨b, hb⟩ : ∃ b, b = goodN n v := ⟨_, rfl⟩
  have HGA := Lib.hid (show ∀ w, Calls Try.prog 32 #[.int .i64 n, .agg (bva u)] w (RetB (.bool a) w) from fun w => by rw [ha]; exact good_any w n u hu)
  have HGB := Lib.hid (show ∀ w, Calls Try.prog 32 #[.int .i64 n, .agg (bva v)] w (RetB (.bool b) w) from fun w => by rw [hb]; exact good_any w n v hv)
  have HCK := Lib.hid (show ck goodN n u v = if !a && !b then 2 else if a && (b && decide (u = v)) then 0 else 1 by rw [ck, ← ha, ← hb])
  have HQ := Lib.hid (fun W : World => eq_sec (w := W) u v hu hv)
  rw [HCK.out]
  clear hX hY hB hu hv ha hb HCK
  go_enter Try.func62, Try.ntmps62
  go_upto_region 1 with fail
  rw [← hw2]
  clear hw2
  obtain ⟨q, hq⟩ : ∃ q, q = w.heap.size := ⟨_, rfl⟩
  rw [← hq] at X Y
  rw [← hq]
  clear hq
  refine wp_region_held_drew (S := fun w' => Below w2.heap.size w2 w') (by kernel_rfl) (Below.refl _ _).drew (fun hh => ?_)
  have HH := Lib.hid hh
  clear hh
  refine wpAnyH_take (i := 0) (v := ?vA0) rfl (by kernel_rfl) (by kernel_rfl) (by kernel_rfl) (fun _ _ _ h => h) (Or.inl ⟨by rfl, fun w' _ => ?yA0⟩) HH.out ?_
  case yA0 => (go_simp; try with_reducible rfl)
  refine wpAnyH_take (i := 1) (v := .agg (bva u)) rfl (by kernel_rfl) (by kernel_rfl) (by kernel_rfl) (fun _ _ _ h => h) (Or.inl ⟨by rfl, fun w' hw' => ?yA1⟩) HH.out ?_
  case yA1 => exact exec_load 37 (.tmp 4) rfl rfl (X.out.below hw') Try.underlying37 rfl HIU.out
  try simp only [List.getElem_toArray, List.getElem_cons_succ, List.getElem_cons_zero, Act.put, List.setIfInBounds_toArray, List.set_cons_zero, List.set_cons_succ]
  refine wpAnyH_take (i := 3) (v := ?vA3) rfl (by kernel_rfl) (by kernel_rfl) (by kernel_rfl) (fun _ _ _ h => h) (Or.inl ⟨by rfl, fun w' _ => ?yA3⟩) HH.out ?_
  case yA3 => (go_simp; try with_reducible rfl)
  refine wpAnyH_take (i := 4) (v := .agg (bva v)) rfl (by kernel_rfl) (by kernel_rfl) (by kernel_rfl) (fun _ _ _ h => h) (Or.inl ⟨by rfl, fun w' hw' => ?yA4⟩) HH.out ?_
  case yA4 => exact exec_load 37 (.tmp 5) rfl rfl (Y.out.below hw') Try.underlying37 rfl HIV.out
  try simp only [List.getElem_toArray, List.getElem_cons_succ, List.getElem_cons_zero, Act.put, List.setIfInBounds_toArray, List.set_cons_zero, List.set_cons_succ]
  refine wpAnyH_ready (rs := [2]) (by kernel_rfl) (by simp) (AllReadyH.cons rfl (fun K hK => ?_) AllReadyH.nil)
  go_simp
  refine (HGA.out _).mono ?_
  rintro e v1 ⟨rfl, bw1⟩
  go_simp
  refine hK.out _ _ (HH.out.trans (bw1.mono HH.out.size)) (fun hh => ?_)
  have HH' := Lib.hid hh
  clear hh hK K HH bw1
  have HH := Lib.hid HH'.out
  clear HH'
  try simp only [List.getElem_toArray, List.getElem_cons_succ, List.getElem_cons_zero, Act.put, List.setIfInBounds_toArray, List.set_cons_zero, List.set_cons_succ]
  refine wpAnyH_ready (rs := [5]) (by kernel_rfl) (by simp) (AllReadyH.cons rfl (fun K hK => ?_) AllReadyH.nil)
  go_simp
  refine (HGB.out _).mono ?_
  rintro e v2 ⟨rfl, bw2⟩
  go_simp
  refine hK.out _ _ (HH.out.trans (bw2.mono HH.out.size)) (fun hh => ?_)
  have HH' := Lib.hid hh
  clear hh hK K HH bw2
  have HH := Lib.hid HH'.out
  clear HH'
  refine wpAnyH_take (i := 6) (v := ?vA6) rfl (by kernel_rfl) (by kernel_rfl) (by kernel_rfl) (fun _ _ _ h => h) (Or.inl ⟨by rfl, fun w' _ => ?yA6⟩) HH.out ?_
  case yA6 => (go_simp; try with_reducible rfl)
  refine wpAnyH_take (i := 7) (v := ?vA7) rfl (by kernel_rfl) (by kernel_rfl) (by kernel_rfl) (fun _ _ _ h => h) (Or.inl ⟨by rfl, fun w' _ => ?yA7⟩) HH.out ?_
  case yA7 => (go_simp; try with_reducible rfl)
  try simp only [List.getElem_toArray, List.getElem_cons_succ, List.getElem_cons_zero, Act.put, List.setIfInBounds_toArray, List.set_cons_zero, List.set_cons_succ]
  refine wpAnyH_done (by kernel_rfl) ?_ _
  have hE := BB.out.trans (HH.out.mono BB.out.size)
  have HE := Lib.hid hE
  clear hE
  cases a <;> cases b
  · go_wp2_with fail
    go_ret
    exact ⟨rfl, HE.out⟩
  · go_wp2_with fail
    go_ret
    exact ⟨rfl, HE.out⟩
  · go_wp2_with fail
    go_ret
    exact ⟨rfl, HE.out⟩
  · by_cases huv : u = v
    · have hq := fun W => HQ.out W
      rw [decide_eq_true huv] at hq
      have HD := Lib.hid huv
      clear huv
      go_wp2_with (first
      | (refine wpList_load_if (by rfl) 37 (.tmp 4) rfl rfl (X.out.below HH.out) Try.underlying37 rfl HIU.out ?_)
      | (refine wpList_load_if (by rfl) 37 (.tmp 5) rfl rfl (Y.out.below HH.out) Try.underlying37 rfl HIV.out ?_))
      go_ret
      exact ⟨by simp, HE.out⟩
    · have hq := fun W => HQ.out W
      rw [decide_eq_false huv] at hq
      have HD := Lib.hid huv
      clear huv
      go_wp2_with (first
      | (refine wpList_load_if (by rfl) 37 (.tmp 4) rfl rfl (X.out.below HH.out) Try.underlying37 rfl HIU.out ?_)
      | (refine wpList_load_if (by rfl) 37 (.tmp 5) rfl rfl (Y.out.below HH.out) Try.underlying37 rfl HIV.out ?_))
      go_ret
      exact ⟨by simp, HE.out⟩
theorem results_cells2S {P : Program} {fn : Func} {p q : Tmp} {ty : TypeId} (h : fn.results = #[.cell p ty, .cell q ty]) (tmps : Array Value) (w : World) (g g' : Nat) (cs cs' : Array Value) {d : TypeDesc}
    (hp : tmps.getD p undef = .pointer (some ⟨g, 0, none⟩)) (hq : tmps.getD q undef = .pointer (some ⟨g', 0, none⟩)) (hg : Blk w g cs ty) (hg' : Blk w g' cs' ty)
    (hu : P.underlying ty = some d) (hd : (match d with | .struct _ | .array _ _ => true | _ => false) = true) (hi : (P.info? ty).map (·.size) = some cs.size) (hi' : (P.info? ty).map (·.size) = some cs'.size) :
    (results fn tmps).run P w = .ok (.tuple #[.agg cs, .agg cs']) w := by
  have hp' : tmps[p]?.getD undef = .pointer (some ⟨g, 0, none⟩) := by simpa using hp
  have hq' : tmps[q]?.getD undef = .pointer (some ⟨g', 0, none⟩) := by simpa using hq
  simp [results, h, hp', hq', asAddr, run_loadVar_row w g ty ty cs (0, 0) d hg hu hd hi, run_loadVar_row w g' ty ty cs' (0, 0) d hg' hu hd hi']
theorem four_blocksS (w : World) (A B C D : Obj) : ((((w.alloc A).alloc B).alloc C).alloc D).heap[w.heap.size]? = some A ∧ ((((w.alloc A).alloc B).alloc C).alloc D).heap[w.heap.size + 1]? = some B ∧ ((((w.alloc A).alloc B).alloc C).alloc D).heap[w.heap.size + 1 + 1]? = some C ∧ ((((w.alloc A).alloc B).alloc C).alloc D).heap[w.heap.size + 1 + 1 + 1]? = some D ∧ Below w.heap.size w ((((w.alloc A).alloc B).alloc C).alloc D) := by
  obtain ⟨h1, h2, h3, hb⟩ := three_blocks w A B C
  have hs : (((w.alloc A).alloc B).alloc C).heap.size = w.heap.size + 1 + 1 + 1 := by simp
  refine ⟨?_, ?_, ?_, ?_, hb.alloc (by rw [hs]; omega) _⟩
  · rw [heap_alloc_old _ _ (by rw [hs]; omega)]; exact h1
  · rw [heap_alloc_old _ _ (by rw [hs]; omega)]; exact h2
  · rw [heap_alloc_old _ _ (by rw [hs]; omega)]; exact h3
  · rw [← hs]; exact heap_alloc_new _ _
set_option maxRecDepth 100000 in
set_option maxHeartbeats 6400000 in
theorem rhealed_any (w : World) (n : Nat) (u v : List UInt8) (hu : u.length = 128) (hv : v.length = 128) : Calls Try.prog 22 #[.int .i64 n, .agg (bva u), .agg (bva v)] w (RetB (.tuple #[.agg (bva (hl0 goodN n u v)), .agg (bva (hl1 goodN n u v))]) w) := by
  obtain ⟨z, hz0⟩ : ∃ z : List UInt8, z = zeroS := ⟨_, rfl⟩
  have hz : ∀ W, (zeroValue 37).run Try.prog W = .ok (.agg (bva z)) W := fun _ => by rw [hz0]; kernel_rfl
  have HZ3 := Lib.hid (show z.length = 128 by rw [hz0]; exact zeroS_length)
  clear hz0
  obtain ⟨w2, hw2⟩ : ∃ w2, w2 = (((w.alloc (.cells (bva u) 37)).alloc (.cells (bva v) 37)).alloc (.cells (bva z) 37)).alloc (.cells (bva z) 37) := ⟨_, rfl⟩
  obtain ⟨g1, g2, g3, g4, g5⟩ := four_blocksS w (.cells (bva u) 37) (.cells (bva v) 37) (.cells (bva z) 37) (.cells (bva z) 37)
  rw [← hw2] at g1 g2 g3 g4 g5
  have X := Lib.hid (show Blk w2 w.heap.size (bva u) 37 from g1)
  have Y := Lib.hid (show Blk w2 (w.heap.size + 1) (bva v) 37 from g2)
  have P := Lib.hid (show Blk w2 (w.heap.size + 1 + 1) (bva z) 37 from g3)
  have Q := Lib.hid (show Blk w2 (w.heap.size + 1 + 1 + 1) (bva z) 37 from g4)
  have BB := Lib.hid g5
  have HIU : Hid ((Try.prog.info? 37).map (·.size) = some (bva u).size) := by rw [bva_size, hu]; exact info_sec
  have HIV : Hid ((Try.prog.info? 37).map (·.size) = some (bva v).size) := by rw [bva_size, hv]; exact info_sec
  have HU3 := Lib.hid hu
  have HV3 := Lib.hid hv
  obtain ⟨a, ha⟩ : ∃ a, a = goodN n u := ⟨_, rfl⟩
  obtain ⟨b, hb⟩ : ∃ b, b = goodN n v := ⟨_, rfl⟩
  have HGA := Lib.hid (show ∀ w, Calls Try.prog 32 #[.int .i64 n, .agg (bva u)] w (RetB (.bool a) w) from fun w => by rw [ha]; exact good_any w n u hu)
  have HGB := Lib.hid (show ∀ w, Calls Try.prog 32 #[.int .i64 n, .agg (bva v)] w (RetB (.bool b) w) from fun w => by rw [hb]; exact good_any w n v hv)
  have HV0 := Lib.hid (show hl0 goodN n u v = (if a then u else if b then v else u) by rw [hl0, ← ha, ← hb])
  have HV1 := Lib.hid (show hl1 goodN n u v = (if a then u else v) by rw [hl1, ← ha])
  obtain ⟨x0, hx0⟩ : ∃ x0, x0 = hl0 goodN n u v := ⟨_, rfl⟩
  obtain ⟨x1, hx1⟩ : ∃ x1, x1 = hl1 goodN n u v := ⟨_, rfl⟩
  rw [← hx0, ← hx1]
  have HE0 := Lib.hid (hx0.trans HV0.out)
  have HE1 := Lib.hid (hx1.trans HV1.out)
  clear g1 g2 g3 g4 g5 hu hv ha hb HV0 HV1 hx0 hx1
  go_enter Try.func22, Try.ntmps22
  go_upto_region 1 with fail
  rw [← hw2]
  clear hw2
  obtain ⟨q, hq⟩ : ∃ q, q = w.heap.size := ⟨_, rfl⟩
  rw [← hq] at X Y P Q
  rw [← hq]
  have HQ := Lib.hid (show w.heap.size ≤ q by omega)
  clear hq
  go_wp2_with (first
    | (refine wpList_load_row rfl 37 (.tmp 4) rfl _ rfl 37 (bva u) (0, 0) _ X.out Try.underlying37 rfl HIU.out ?_))
  refine (HGA.out _).mono ?_
  rintro e w3 ⟨rfl, bw⟩
  have X3 := Lib.hid (X.out.below bw)
  have Y3 := Lib.hid (Y.out.below bw)
  have P3 := Lib.hid (P.out.below bw)
  have Q3 := Lib.hid (Q.out.below bw)
  have B3 := Lib.hid (BB.out.trans (bw.mono BB.out.size))
  clear bw X Y P Q BB
  cases a with
  | true =>
    go_upto_region 2 with fail
    refine wp_region_held_drew (S := fun w' => Blk w' q (bva u) 37 ∧ Blk w' (q + 1) (bva v) 37) (by kernel_rfl) ⟨X3.out.drewN 1, Y3.out.drewN 1⟩ (fun hh => ?_)
    have HH := Lib.hid hh
    clear hh
    refine wpAnyH_take (i := 0) (v := .agg (bva u)) rfl (by kernel_rfl) (by kernel_rfl) (by kernel_rfl) (fun _ _ _ h => h) (Or.inl ⟨by rfl, fun w' hw' => ?yR0⟩) HH.out ?_
    case yR0 => exact exec_load 37 (.tmp 4) rfl rfl hw'.1 Try.underlying37 rfl HIU.out
    refine wpAnyH_take (i := 1) (v := .agg (bva u)) rfl (by kernel_rfl) (by kernel_rfl) (by kernel_rfl) (fun _ _ _ h => h) (Or.inl ⟨by rfl, fun w' hw' => ?yR1⟩) HH.out ?_
    case yR1 => exact exec_load 37 (.tmp 4) rfl rfl hw'.1 Try.underlying37 rfl HIU.out
    try simp only [List.getElem_toArray, List.getElem_cons_succ, List.getElem_cons_zero, Act.put, List.setIfInBounds_toArray, List.set_cons_zero, List.set_cons_succ]
    obtain ⟨h1, h2, h3, h4, h5⟩ := two_set (w := w) (x := u) (y := u) (P3.out.drewN 1) (Q3.out.drewN 1) (by omega) B3.out.drew (by have := HQ.out; omega) (by have := HQ.out; omega)
    have k1 := (X3.out.drewN 1).but ((But.refl _).setRow (S := fun y => y = q + 1 + 1) (.inl rfl) (bva u)) (by omega)
    have k2 := (Y3.out.drewN 1).but ((But.refl _).setRow (S := fun y => y = q + 1 + 1) (.inl rfl) (bva u)) (by omega)
    have k3 := k1.but ((But.refl _).setRow (S := fun y => y = q + 1 + 1 + 1) (.inl rfl) (bva u)) (by omega)
    have k4 := k2.but ((But.refl _).setRow (S := fun y => y = q + 1 + 1 + 1) (.inl rfl) (bva u)) (by omega)
    refine wpAnyH_ready (rs := [2]) (by kernel_rfl) (by simp) (AllReadyH.cons rfl (fun K hK => ?_) AllReadyH.nil)
    rw [if_pos (by rfl)]
    refine wp_store_row 37 (.tmp 6) (.tmp 11) rfl (q + 1 + 1) (bva u) rfl rfl 37 (bva z) (P3.out.drewN 1) HIU.out (by rw [bva_size, bva_size, HU3.out, HZ3.out]) (bva_one _) ?_
    refine hK.out _ _ ⟨k1, k2⟩ (fun hh => ?_)
    have HH' := Lib.hid hh
    clear hh hK K HH
    have HH := Lib.hid HH'.out
    clear HH'
    refine wpAnyH_ready (rs := [3]) (by kernel_rfl) (by simp) (AllReadyH.cons rfl (fun K hK => ?_) AllReadyH.nil)
    rw [if_pos (by rfl)]
    refine wp_store_row 37 (.tmp 7) (.tmp 12) rfl (q + 1 + 1 + 1) (bva u) rfl rfl 37 (bva z) h1 HIU.out (by rw [bva_size, bva_size, HU3.out, HZ3.out]) (bva_one _) ?_
    refine hK.out _ _ ⟨k3, k4⟩ (fun hh => ?_)
    have HH' := Lib.hid hh
    clear hh hK K HH
    have HH := Lib.hid HH'.out
    clear HH'
    refine wpAnyH_done (by kernel_rfl) ?_ _
    clear k1 k2 k3 k4 h1
    have R1 := Lib.hid h2
    have R2 := Lib.hid h3
    have R5 := Lib.hid h5
    clear h2 h3 h4 h5
    go_wp2_with fail
    exact bodyPost_ret (v := .tuple #[.agg (bva u), .agg (bva u)]) (results_cells2S Try.results22 _ _ (q + 1 + 1) (q + 1 + 1 + 1) (bva u) (bva u) rfl rfl R1.out R2.out Try.underlying37 rfl HIU.out HIU.out) rfl ⟨by rw [show x0 = u from HE0.out, show x1 = u from HE1.out], R5.out⟩
  | false =>
    go_wp2_with (first
      | (refine wpList_load_row rfl 37 (.tmp 5) rfl _ rfl 37 (bva v) (0, 0) _ Y3.out Try.underlying37 rfl HIV.out ?_))
    refine (HGB.out _).mono ?_
    rintro e w4 ⟨rfl, bw⟩
    have X4 := Lib.hid (X3.out.below bw)
    have Y4 := Lib.hid (Y3.out.below bw)
    have P4 := Lib.hid (P3.out.below bw)
    have Q4 := Lib.hid (Q3.out.below bw)
    have B4 := Lib.hid (B3.out.trans (bw.mono B3.out.size))
    clear bw X3 Y3 P3 Q3 B3
    cases b with
    | true =>
      go_upto_region 4 with fail
      refine wp_region_held_drew (S := fun w' => Blk w' q (bva u) 37 ∧ Blk w' (q + 1) (bva v) 37) (by kernel_rfl) ⟨X4.out.drewN 1, Y4.out.drewN 1⟩ (fun hh => ?_)
      have HH := Lib.hid hh
      clear hh
      refine wpAnyH_take (i := 0) (v := .agg (bva v)) rfl (by kernel_rfl) (by kernel_rfl) (by kernel_rfl) (fun _ _ _ h => h) (Or.inl ⟨by rfl, fun w' hw' => ?yS0⟩) HH.out ?_
      case yS0 => exact exec_load 37 (.tmp 5) rfl rfl hw'.2 Try.underlying37 rfl HIV.out
      refine wpAnyH_take (i := 1) (v := .agg (bva v)) rfl (by kernel_rfl) (by kernel_rfl) (by kernel_rfl) (fun _ _ _ h => h) (Or.inl ⟨by rfl, fun w' hw' => ?yS1⟩) HH.out ?_
      case yS1 => exact exec_load 37 (.tmp 5) rfl rfl hw'.2 Try.underlying37 rfl HIV.out
      try simp only [List.getElem_toArray, List.getElem_cons_succ, List.getElem_cons_zero, Act.put, List.setIfInBounds_toArray, List.set_cons_zero, List.set_cons_succ]
      obtain ⟨h1, h2, h3, h4, h5⟩ := two_set (w := w) (x := v) (y := v) (P4.out.drewN 1) (Q4.out.drewN 1) (by omega) B4.out.drew (by have := HQ.out; omega) (by have := HQ.out; omega)
      have k1 := (X4.out.drewN 1).but ((But.refl _).setRow (S := fun y => y = q + 1 + 1) (.inl rfl) (bva v)) (by omega)
      have k2 := (Y4.out.drewN 1).but ((But.refl _).setRow (S := fun y => y = q + 1 + 1) (.inl rfl) (bva v)) (by omega)
      have k3 := k1.but ((But.refl _).setRow (S := fun y => y = q + 1 + 1 + 1) (.inl rfl) (bva v)) (by omega)
      have k4 := k2.but ((But.refl _).setRow (S := fun y => y = q + 1 + 1 + 1) (.inl rfl) (bva v)) (by omega)
      refine wpAnyH_ready (rs := [2]) (by kernel_rfl) (by simp) (AllReadyH.cons rfl (fun K hK => ?_) AllReadyH.nil)
      rw [if_pos (by rfl)]
      refine wp_store_row 37 (.tmp 6) (.tmp 16) rfl (q + 1 + 1) (bva v) rfl rfl 37 (bva z) (P4.out.drewN 1) HIV.out (by rw [bva_size, bva_size, HV3.out, HZ3.out]) (bva_one _) ?_
      refine hK.out _ _ ⟨k1, k2⟩ (fun hh => ?_)
      have HH' := Lib.hid hh
      clear hh hK K HH
      have HH := Lib.hid HH'.out
      clear HH'
      refine wpAnyH_ready (rs := [3]) (by kernel_rfl) (by simp) (AllReadyH.cons rfl (fun K hK => ?_) AllReadyH.nil)
      rw [if_pos (by rfl)]
      refine wp_store_row 37 (.tmp 7) (.tmp 17) rfl (q + 1 + 1 + 1) (bva v) rfl rfl 37 (bva z) h1 HIV.out (by rw [bva_size, bva_size, HV3.out, HZ3.out]) (bva_one _) ?_
      refine hK.out _ _ ⟨k3, k4⟩ (fun hh => ?_)
      have HH' := Lib.hid hh
      clear hh hK K HH
      have HH := Lib.hid HH'.out
      clear HH'
      refine wpAnyH_done (by kernel_rfl) ?_ _
      clear k1 k2 k3 k4 h1
      have R1 := Lib.hid h2
      have R2 := Lib.hid h3
      have R5 := Lib.hid h5
      clear h2 h3 h4 h5
      go_wp2_with fail
      exact bodyPost_ret (v := .tuple #[.agg (bva v), .agg (bva v)]) (results_cells2S Try.results22 _ _ (q + 1 + 1) (q + 1 + 1 + 1) (bva v) (bva v) rfl rfl R1.out R2.out Try.underlying37 rfl HIV.out HIV.out) rfl ⟨by rw [show x0 = v from HE0.out, show x1 = v from HE1.out], R5.out⟩
    | false =>
      go_upto_region 5 with fail
      refine wp_region_held_drew (S := fun w' => Blk w' q (bva u) 37 ∧ Blk w' (q + 1) (bva v) 37) (by kernel_rfl) ⟨X4.out.drewN 1, Y4.out.drewN 1⟩ (fun hh => ?_)
      have HH := Lib.hid hh
      clear hh
      refine wpAnyH_take (i := 0) (v := .agg (bva u)) rfl (by kernel_rfl) (by kernel_rfl) (by kernel_rfl) (fun _ _ _ h => h) (Or.inl ⟨by rfl, fun w' hw' => ?yV0⟩) HH.out ?_
      case yV0 => exact exec_load 37 (.tmp 4) rfl rfl hw'.1 Try.underlying37 rfl HIU.out
      refine wpAnyH_take (i := 1) (v := .agg (bva v)) rfl (by kernel_rfl) (by kernel_rfl) (by kernel_rfl) (fun _ _ _ h => h) (Or.inl ⟨by rfl, fun w' hw' => ?yV1⟩) HH.out ?_
      case yV1 => exact exec_load 37 (.tmp 5) rfl rfl hw'.2 Try.underlying37 rfl HIV.out
      try simp only [List.getElem_toArray, List.getElem_cons_succ, List.getElem_cons_zero, Act.put, List.setIfInBounds_toArray, List.set_cons_zero, List.set_cons_succ]
      obtain ⟨h1, h2, h3, h4, h5⟩ := two_set (w := w) (x := u) (y := v) (P4.out.drewN 1) (Q4.out.drewN 1) (by omega) B4.out.drew (by have := HQ.out; omega) (by have := HQ.out; omega)
      have k1 := (X4.out.drewN 1).but ((But.refl _).setRow (S := fun y => y = q + 1 + 1) (.inl rfl) (bva u)) (by omega)
      have k2 := (Y4.out.drewN 1).but ((But.refl _).setRow (S := fun y => y = q + 1 + 1) (.inl rfl) (bva u)) (by omega)
      have k3 := k1.but ((But.refl _).setRow (S := fun y => y = q + 1 + 1 + 1) (.inl rfl) (bva v)) (by omega)
      have k4 := k2.but ((But.refl _).setRow (S := fun y => y = q + 1 + 1 + 1) (.inl rfl) (bva v)) (by omega)
      refine wpAnyH_ready (rs := [2]) (by kernel_rfl) (by simp) (AllReadyH.cons rfl (fun K hK => ?_) AllReadyH.nil)
      rw [if_pos (by rfl)]
      refine wp_store_row 37 (.tmp 6) (.tmp 18) rfl (q + 1 + 1) (bva u) rfl rfl 37 (bva z) (P4.out.drewN 1) HIU.out (by rw [bva_size, bva_size, HU3.out, HZ3.out]) (bva_one _) ?_
      refine hK.out _ _ ⟨k1, k2⟩ (fun hh => ?_)
      have HH' := Lib.hid hh
      clear hh hK K HH
      have HH := Lib.hid HH'.out
      clear HH'
      refine wpAnyH_ready (rs := [3]) (by kernel_rfl) (by simp) (AllReadyH.cons rfl (fun K hK => ?_) AllReadyH.nil)
      rw [if_pos (by rfl)]
      refine wp_store_row 37 (.tmp 7) (.tmp 19) rfl (q + 1 + 1 + 1) (bva v) rfl rfl 37 (bva z) h1 HIV.out (by rw [bva_size, bva_size, HV3.out, HZ3.out]) (bva_one _) ?_
      refine hK.out _ _ ⟨k3, k4⟩ (fun hh => ?_)
      have HH' := Lib.hid hh
      clear hh hK K HH
      have HH := Lib.hid HH'.out
      clear HH'
      refine wpAnyH_done (by kernel_rfl) ?_ _
      clear k1 k2 k3 k4 h1
      have R1 := Lib.hid h2
      have R2 := Lib.hid h3
      have R5 := Lib.hid h5
      clear h2 h3 h4 h5
      go_wp2_with fail
      exact bodyPost_ret (v := .tuple #[.agg (bva u), .agg (bva v)]) (results_cells2S Try.results22 _ _ (q + 1 + 1) (q + 1 + 1 + 1) (bva u) (bva v) rfl rfl R1.out R2.out Try.underlying37 rfl HIU.out HIV.out) rfl ⟨by rw [show x0 = u from HE0.out, show x1 = v from HE1.out], R5.out⟩
end Go.Proofs.Ytniamllcoemikaa.Sc
/-
  The contract of the reference's All.
-/
namespace Go.Proofs.Ytniamllcoemikaa.Sc
open Go.RowKit Kd Mi
attribute [local go_sem ↓] Go.wp_at_zero Go.wp_at_succ
theorem three_info : (Try.prog.info? 34).map (·.size) = some 3 := by kernel_rfl
theorem cntK_take (f : Int → List UInt8 → Bool) (l0 l1 : List (List UInt8)) (i : Nat) : ∀ k, k ≤ i → cntK f (l0.take i) (l1.take i) k = cntK f l0 l1 k
  | 0, _ => rfl
  | k + 1, h => by
    have e : ∀ l : List (List UInt8), (l.take i).getD k zeroS = l.getD k zeroS := fun l => by
      rw [List.getD_eq_getElem?_getD, List.getD_eq_getElem?_getD, List.getElem?_take, if_pos (by omega)]
    rw [cntK, cntK, cntK_take f l0 l1 i k (by omega), e, e]
theorem rep_step (y : Wk) (c : Int) (k : Nat) (hk : c = (k : Int)) (h3 : k = 0 ∨ k = 1 ∨ k = 2) : ∃ v : Nat, y.rep[k]? = some (.int .i64 v) ∧ v ≤ max y.r (max y.h y.l) ∧ y.rep.setIfInBounds k (.int .i64 ((v : Int) + 1)) = (y.step (c, 0)).rep := by
  subst hk
  rcases h3 with rfl | rfl | rfl
  · exact ⟨y.r, rfl, Nat.le_max_left _ _, by simp [Wk.step, Wk.add, Wk.rep]⟩
  · exact ⟨y.h, rfl, Nat.le_trans (Nat.le_max_left _ _) (Nat.le_max_right _ _), by simp [Wk.step, Wk.add, Wk.rep]⟩
  · exact ⟨y.l, rfl, Nat.le_trans (Nat.le_max_right _ _) (Nat.le_max_right _ _), by simp [Wk.step, Wk.add, Wk.rep]⟩
set_option maxRecDepth 100000 in
set_option maxHeartbeats 6400000 in
theorem rall_any {w : World} {B : Nat} (hB : B ≤ w.heap.size) {A D : Option Addr} {n c d : Nat} {l0 l1 : List (List UInt8)} (h0 : l0.length = n) (h1 : l1.length = n) (h03 : ∀ x ∈ l0, x.length = 128) (h13 : ∀ x ∈ l1, x.length = 128)
    (ha : Rd B w A (svs l0)) (hd : Rd B w D (svs l1)) (hn : n ≤ 100) : Calls Try.prog 21 #[.slice A n c, .slice D n d] w (RetB (.agg (cntK goodN l0 l1 n).rep) w) := by
  obtain ⟨cf, hcf⟩ : ∃ cf, cf = cntK goodN l0 l1 := ⟨_, rfl⟩
  rw [← hcf]
  have HC0 := Lib.hid (show (cf 0).rep = #[.int .i64 0, .int .i64 0, .int .i64 0] by rw [hcf]; rfl)
  have HCS := Lib.hid (show ∀ j, cf (j + 1) = (cf j).step (ck goodN j (l0.getD j zeroS) (l1.getD j zeroS), 0) by rw [hcf]; exact fun j => rfl)
  have HCM := Lib.hid (show ∀ j, max (cf j).r (max (cf j).h (cf j).l) ≤ j by intro j; rw [hcf]; have := cnt_sum (f := goodN) l0 l1 j; omega)
  have HN := Lib.hid hn
  have HL0 := Lib.hid h0
  have HL1 := Lib.hid h1
  have H03 := Lib.hid h03
  have H13 := Lib.hid h13
  have HA := Lib.hid (show ∀ w', Below w.heap.size w w' → Rd B w' A (svs l0) from fun w' h => ha.below (h.mono hB))
  have HD := Lib.hid (show ∀ w', Below w.heap.size w w' → Rd B w' D (svs l1) from fun w' h => hd.below (h.mono hB))
  obtain ⟨w1, hw1⟩ : ∃ w1, w1 = (w.alloc (.cells (cf 0).rep 34)).alloc (.cells (cf 0).rep 34) := ⟨_, rfl⟩
  have hsz : (w.alloc (.cells (cf 0).rep 34)).heap.size = w.heap.size + 1 := Array.size_push _
  have b0 : Below w.heap.size w (w.alloc (.cells (cf 0).rep 34)) := (Below.refl _ _).alloc (Nat.le_refl _) _
  have B1 := Lib.hid (show Below w.heap.size w w1 by rw [hw1]; exact b0.alloc b0.size _)
  have X1 := Lib.hid (show Blk w1 w.heap.size (cf 0).rep 34 by rw [hw1]; exact Blk.below (w := w.alloc (.cells (cf 0).rep 34)) (heap_alloc_new _ _) ((Below.refl _ _).alloc (Nat.le_refl _) _))
  have Y1 := Lib.hid (show Blk w1 (w.heap.size + 1) (cf 0).rep 34 by rw [hw1, ← hsz]; exact heap_alloc_new _ _)
  rw [HC0.out] at hw1
  clear hcf h0 h1 h03 h13 ha hd hn hB hsz b0
  go_enter Try.func21, Try.ntmps21
  go_wp2_with fail
  rw [← hw1]
  clear hw1
  obtain ⟨q, hq⟩ : ∃ q, q = w.heap.size := ⟨_, rfl⟩
  rw [← hq] at X1 Y1
  rw [← hq]
  have HQ := Lib.hid (show w.heap.size ≤ q by omega)
  clear hq
  go_loopw [6] (fun i wr => ∃ (j : Nat), j ≤ n ∧ i = .int .i64 j ∧ Below w.heap.size w wr ∧ Blk wr q (cf 0).rep 34 ∧ Blk wr (q + 1) (cf j).rep 34) (fun i _ => n - (intOf i).toNat)
  case atStart => exact ⟨0, Nat.zero_le _, rfl, B1.out, X1.out, Y1.out⟩
  case round =>
    clear B1 X1 Y1
    obtain ⟨j, hj, rfl, hb, hx, hy⟩ := hrel
    have HJ := Lib.hid hj
    have HW := Lib.hid hb
    have X := Lib.hid hx
    have Y := Lib.hid hy
    clear hj hb hx hy
    by_cases hlt : j < n
    · have HLT := Lib.hid hlt
      have j0 : (0 : Int) ≤ (j : Int) := by omega
      have j1 : (j : Int) < (n : Int) := by omega
      have wj : IntKind.i64.wrap ((j : Int) + 1) = ((j + 1 : Nat) : Int) := IntWalk.i64_in _ (by have := HN.out; omega)
      have hj0 : j < l0.length := by rw [HL0.out]; exact hlt
      have hj1 : j < l1.length := by rw [HL1.out]; exact hlt
      obtain ⟨u, hu⟩ : ∃ u, u = l0.getD j zeroS := ⟨_, rfl⟩
      obtain ⟨v, hv⟩ : ∃ v, v = l1.getD j zeroS := ⟨_, rfl⟩
      have hu' : u = l0[j] := by rw [hu, List.getD_eq_getElem?_getD, List.getElem?_eq_getElem hj0]; rfl
      have hv' : v = l1[j] := by rw [hv, List.getD_eq_getElem?_getD, List.getElem?_eq_getElem hj1]; rfl
      obtain ⟨ad, hA1, hz1, hz2⟩ := rd_sec (HA.out wr HW.out) H03.out hj0
      obtain ⟨ae, hA2, hz3, hz4⟩ := rd_sec (HD.out wr HW.out) H13.out hj1
      subst hA1 hA2
      have HU3 := Lib.hid (show u.length = 128 by rw [hu']; exact H03.out _ (List.getElem_mem hj0))
      have HV3 := Lib.hid (show v.length = 128 by rw [hv']; exact H13.out _ (List.getElem_mem hj1))
      have HIU := Lib.hid (show (Try.prog.info? 37).map (·.size) = some (bv u).length by rw [bv_length, HU3.out]; exact info_sec)
      have HIV := Lib.hid (show (Try.prog.info? 37).map (·.size) = some (bv v).length by rw [bv_length, HV3.out]; exact info_sec)
      have HC1 := Lib.hid (show ∀ w', Below wr.heap.size wr w' → ∀ i x, (bv u)[i]? = some x → w'.cell? ((ad.add (j * 128)).add i) = some x from fun w' hb i x hx => by
        obtain ⟨a2, h1, _, h2⟩ := rd_sec (HA.out w' (HW.out.trans (hb.mono HW.out.size))) H03.out hj0
        injection h1 with h1; subst h1
        exact h2 i x (by rw [← hu']; exact hx))
      have HC2 := Lib.hid (show ∀ w', Below wr.heap.size wr w' → ∀ i x, (bv v)[i]? = some x → w'.cell? ((ae.add (j * 128)).add i) = some x from fun w' hb i x hx => by
        obtain ⟨a2, h1, _, h2⟩ := rd_sec (HD.out w' (HW.out.trans (hb.mono HW.out.size))) H13.out hj1
        injection h1 with h1; subst h1
        exact h2 i x (by rw [← hv']; exact hx))
      obtain ⟨kc, hkc⟩ : ∃ kc, kc = ck goodN j u v := ⟨_, rfl⟩
      have HKC := Lib.hid (show ∀ w, Calls Try.prog 62 #[.int .i64 j, .agg (bva u), .agg (bva v)] w (RetB (.int .i64 kc) w) from fun w => by rw [hkc]; exact rcounts_any w j u v HU3.out HV3.out)
      have HST := Lib.hid (show cf (j + 1) = (cf j).step (kc, 0) by rw [HCS.out, hkc, hu, hv])
      obtain ⟨m, hm, hm3⟩ : ∃ m : Nat, kc = (m : Int) ∧ (m = 0 ∨ m = 1 ∨ m = 2) := by
        rcases ck_three (f := goodN) j u v with e | e | e
        · exact ⟨0, by rw [hkc, e]; rfl, .inl rfl⟩
        · exact ⟨1, by rw [hkc, e]; rfl, .inr (.inl rfl)⟩
        · exact ⟨2, by rw [hkc, e]; rfl, .inr (.inr rfl)⟩
      obtain ⟨vo, hvo, hvm, hvs⟩ := rep_step (cf j) kc m hm hm3
      have HVS := Lib.hid (show (cf j).rep.setIfInBounds m (.int .i64 ((vo : Int) + 1)) = (cf (j + 1)).rep by rw [HST.out]; exact hvs)
      have m0 : (0 : Int) ≤ (m : Int) := by omega
      have m1 : (m : Int) < 3 := by omega
      have wv : IntKind.i64.wrap ((vo : Int) + 1) = (vo : Int) + 1 := IntWalk.i64_in _ (by have := HCM.out j; have := HN.out; omega)
      have HVO := Lib.hid (show ∀ w', Below wr.heap.size wr w' → w'.cell? ⟨q + 1, m, none⟩ = some (.int .i64 vo) ∧ w'.frozen? ⟨q + 1, m, none⟩ = false from fun w' hb => ⟨by rw [(Y.out.below hb).cell m]; exact hvo, (Y.out.below hb).free m⟩)
      rw [hm] at HKC
      clear hz1 hz2 hz3 hz4 hlt hu hv hu' hv' hj0 hj1 hkc hm hm3 hvo hvm hvs HST
      go_upto_region 5 with fail
      refine wp_region_held_drew (S := fun w' => Below wr.heap.size wr w') (by kernel_rfl) (Below.refl _ _).drew (fun hh => ?_)
      have HH := Lib.hid hh
      clear hh
      refine wpAnyH_take (i := 0) (v := ?vG0) rfl (by kernel_rfl) (by kernel_rfl) (by kernel_rfl) (fun _ _ _ h => h) (Or.inl ⟨by rfl, fun w' _ => ?yG0⟩) HH.out ?_
      case yG0 => (go_simp; try with_reducible rfl)
      refine wpAnyH_take (i := 1) (v := ?vG1) rfl (by kernel_rfl) (by kernel_rfl) (by kernel_rfl) (fun _ _ _ h => h) (Or.inl ⟨by rfl, fun w' _ => ?yG1⟩) HH.out ?_
      case yG1 => (go_simp; try with_reducible rfl)
      try simp only [List.getElem_toArray, List.getElem_cons_succ, List.getElem_cons_zero, Act.put, List.setIfInBounds_toArray, List.set_cons_zero, List.set_cons_succ]
      refine wpAnyH_take (i := 2) (v := ?vG2) rfl (by kernel_rfl) (by kernel_rfl) (by kernel_rfl) (fun _ _ _ h => h) (Or.inl ⟨by rfl, fun w' _ => ?yG2⟩) HH.out ?_
      case yG2 => (go_simp; try with_reducible rfl)
      refine wpAnyH_take (i := 3) (v := ?vG3) rfl (by kernel_rfl) (by kernel_rfl) (by kernel_rfl) (fun _ _ _ h => h) (Or.inl ⟨by rfl, fun w' _ => ?yG3⟩) HH.out ?_
      case yG3 => (go_simp; try with_reducible rfl)
      refine wpAnyH_take (i := 4) (v := .agg (bva u)) rfl (by kernel_rfl) (by kernel_rfl) (by kernel_rfl) (fun _ _ _ h => h) (Or.inl ⟨by rfl, fun w' hw' => ?yG4⟩) HH.out ?_
      case yG4 => exact exec_load_at 37 (.tmp 23) rfl (ad.add (j * 128)) rfl (HC1.out w' hw') Try.underlying37 rfl HIU.out
      try simp only [List.getElem_toArray, List.getElem_cons_succ, List.getElem_cons_zero, Act.put, List.setIfInBounds_toArray, List.set_cons_zero, List.set_cons_succ]
      refine wpAnyH_take (i := 5) (v := ?vG5) rfl (by kernel_rfl) (by kernel_rfl) (by kernel_rfl) (fun _ _ _ h => h) (Or.inl ⟨by rfl, fun w' _ => ?yG5⟩) HH.out ?_
      case yG5 => (go_simp; try with_reducible rfl)
      refine wpAnyH_take (i := 6) (v := ?vG6) rfl (by kernel_rfl) (by kernel_rfl) (by kernel_rfl) (fun _ _ _ h => h) (Or.inl ⟨by rfl, fun w' _ => ?yG6⟩) HH.out ?_
      case yG6 => (go_simp; try with_reducible rfl)
      refine wpAnyH_take (i := 7) (v := ?vG7) rfl (by kernel_rfl) (by kernel_rfl) (by kernel_rfl) (fun _ _ _ h => h) (Or.inl ⟨by rfl, fun w' _ => ?yG7⟩) HH.out ?_
      case yG7 => (go_simp; try with_reducible rfl)
      try simp only [List.getElem_toArray, List.getElem_cons_succ, List.getElem_cons_zero, Act.put, List.setIfInBounds_toArray, List.set_cons_zero, List.set_cons_succ]
      refine wpAnyH_take (i := 8) (v := .agg (bva v)) rfl (by kernel_rfl) (by kernel_rfl) (by kernel_rfl) (fun _ _ _ h => h) (Or.inl ⟨by rfl, fun w' hw' => ?yG8⟩) HH.out ?_
      case yG8 => exact exec_load_at 37 (.tmp 27) rfl (ae.add (j * 128)) rfl (HC2.out w' hw') Try.underlying37 rfl HIV.out
      try simp only [List.getElem_toArray, List.getElem_cons_succ, List.getElem_cons_zero, Act.put, List.setIfInBounds_toArray, List.set_cons_zero, List.set_cons_succ]
      refine wpAnyH_ready (rs := [9]) (by kernel_rfl) (by simp) (AllReadyH.cons rfl (fun K hK => ?_) AllReadyH.nil)
      go_simp
      refine (HKC.out _).mono ?_
      rintro e v1 ⟨rfl, bw1⟩
      go_simp
      refine hK.out _ _ (HH.out.trans (bw1.mono HH.out.size)) (fun hh => ?_)
      have HH' := Lib.hid hh
      clear hh hK K HH bw1
      have HH := Lib.hid HH'.out
      clear HH'
      refine wpAnyH_take (i := 10) (v := ?vG10) rfl (by kernel_rfl) (by kernel_rfl) (by kernel_rfl) (fun _ _ _ h => h) (Or.inl ⟨by rfl, fun w' _ => ?yG10⟩) HH.out ?_
      case yG10 => (go_simp; try with_reducible rfl)
      try simp only [List.getElem_toArray, List.getElem_cons_succ, List.getElem_cons_zero, Act.put, List.setIfInBounds_toArray, List.set_cons_zero, List.set_cons_succ]
      refine wpAnyH_done (by kernel_rfl) ?_ _
      have X5 := Lib.hid (X.out.below HH.out)
      have Y5 := Lib.hid (Y.out.below HH.out)
      have W5 := Lib.hid (HW.out.trans (HH.out.mono HW.out.size))
      obtain ⟨hv1, hv2⟩ := HVO.out _ HH.out
      clear HC1 HC2 HVO X Y HW HH
      go_wp2_with fail
      go_roundw
      case rel => exact ⟨j + 1, HLT.out, by go_num, W5.out.setCell (by have := HQ.out; show w.heap.size ≤ q + 1; omega) _, X5.out.but (but_one _) (by omega), walk_set Y5.out m _ HVS.out⟩
      case measure => (have := HLT.out; simp [intOf]; omega)
    · obtain rfl : j = n := by have := HJ.out; omega
      have j1 : ¬ (j : Int) < (j : Int) := by omega
      clear hlt
      go_wp2_with (first
        | (refine wpList_load_row rfl 34 (.tmp 5) rfl _ rfl 34 (cf j).rep (0, 0) _ Y.out Try.underlying34 rfl three_info ?_)
        | (refine wpList_store_row rfl 34 (.tmp 4) (.tmp 36) rfl q (cf j).rep rfl rfl 34 (cf 0).rep X.out three_info rfl (by simp [Wk.rep, Value.oneCell']) ?_))
      exact bodyPost_ret (v := .agg (cf j).rep) (results_cell_row Try.results21 _ _ q 34 (cf j).rep (0, 0) _ rfl (setRow_heap _ _ _ _ _ _ X.out) Try.underlying34 rfl three_info) rfl ⟨rfl, below_setRow HW.out HQ.out _⟩
end Go.Proofs.Ytniamllcoemikaa.Sc
/-
  A walk, step by step; a row's beginning. No program.
-/
namespace Go.Proofs.Ytniamllcoemikaa.Sc
open Go.RowKit Kd Mi
theorem run_steps {f : Int → List UInt8 → Bool} {x : Md} {n : Nat} (h : Fresh x n) : ∃ xs : Nat → Md, xs 0 = x ∧ (∀ j, j < n → mdStep f (xs j, cntK f x.l0 x.l1 j) = (((j : Int), true), (xs (j + 1), cntK f x.l0 x.l1 (j + 1)))) ∧
    mdStep f (xs n, cntK f x.l0 x.l1 n) = ((0, false), (xs n, cntK f x.l0 x.l1 n)) ∧ ∀ j, j ≤ n → Fresh (xs j) n := by
  refine ⟨fun j => (mdRun f (x, Wk.zero) j).1, rfl, fun j hj => ?_, ?_, fun j hj => (h.run (f := f) j hj).1⟩
  · obtain ⟨h1, h2, _⟩ := h.run (f := f) j (by omega)
    obtain ⟨h3, h4, _⟩ := h.run (f := f) (j + 1) (by omega)
    have e : mdRun f (x, Wk.zero) j = ((mdRun f (x, Wk.zero) j).1, cntK f x.l0 x.l1 j) := by rw [← h2]
    have e2 : mdRun f (x, Wk.zero) (j + 1) = (mdStep f (mdRun f (x, Wk.zero) j)).2 := rfl
    rw [e] at e2
    have e3 : (mdStep f ((mdRun f (x, Wk.zero) j).1, cntK f x.l0 x.l1 j)).1 = ((j : Int), true) := by
      rw [mdStep, if_neg (by rw [h1.len, cntK_n]; omega), cntK_n]
    refine Prod.ext e3 ?_
    rw [← e2]
    exact Prod.ext rfl h4
  · obtain ⟨h1, _⟩ := h.run (f := f) n (Nat.le_refl _)
    rw [mdStep, if_pos (by rw [h1.len, cntK_n]; exact Nat.le_refl _)]
theorem svs_take_get {l : List (List UInt8)} {j i : Nat} {v : Value} (h : (svs (l.take j))[i]? = some v) : (svs l)[i]? = some v := by
  have e : svs l = svs (l.take j) ++ svs (l.drop j) := by rw [← svs_append, List.take_append_drop]
  rw [e, List.getElem?_append_left (List.getElem?_eq_some_iff.1 h).1]
  exact h
theorem rd_takeS {B : Nat} {w : World} {A : Option Addr} {l : List (List UInt8)} (h : Rd B w A (svs l)) (j : Nat) : Rd B w A (svs (l.take j)) := fun i v hv => h i v (svs_take_get hv)
theorem take_three {l : List (List UInt8)} (h : ∀ x ∈ l, x.length = 128) (j : Nat) : ∀ x ∈ l.take j, x.length = 128 := fun x hx => h x (List.mem_of_mem_take hx)
theorem small_few {y : Wk} {j : Nat} (h : y.n = j) (hs : y.r + y.h + y.l = j) (hj : j ≤ 12) : y.small := ⟨by omega, by omega, by omega, by omega⟩
/-- The first j of both rows are counted. -/
theorem rall_take {w : World} {B : Nat} (hB : B ≤ w.heap.size) {A D : Option Addr} {k c d : Nat} {l0 l1 : List (List UInt8)} (h0 : l0.length = k) (h1 : l1.length = k) (h03 : ∀ x ∈ l0, x.length = 128) (h13 : ∀ x ∈ l1, x.length = 128)
    (ha : Rd B w A (svs l0)) (hd : Rd B w D (svs l1)) (hk : k ≤ 12) (j : Nat) (hj : j ≤ k) : Calls Try.prog 21 #[.slice A j c, .slice D j d] w (RetB (.agg (cntK goodN l0 l1 j).rep) w) := by
  have hc := rall_any hB (n := j) (c := c) (d := d) (l0 := l0.take j) (l1 := l1.take j) (by rw [List.length_take]; omega) (by rw [List.length_take]; omega) (take_three h03 j) (take_three h13 j) (rd_takeS ha j) (rd_takeS hd j) (by omega)
  rwa [cntK_take goodN l0 l1 j j (Nat.le_refl _)] at hc
end Go.Proofs.Ytniamllcoemikaa.Sc
