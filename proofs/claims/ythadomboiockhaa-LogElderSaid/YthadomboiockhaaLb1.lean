/-
  Texts of this seat, one behind the other: LoNil, LoZero2, SgOpen, LoElderP.
-/
import Derived.Test.YthadomboiockhaaProg
import Derived.Test.YthadomboiockhaaLa6
/-
  Of no log nothing is told.
-/
namespace Go.Proofs.Ythadomboiockhaa.Lo
open Go.RowKit Go.Maps Kd Mi Sx Sg
attribute [local go_sem ↓] Go.wp_at_zero Go.wp_at_succ
theorem nil_append (w : World) : Calls Try.prog 35 #[.pointer none, .slice none 0 0] w (RetB (.tuple #[.int .i64 0, .int .i64 1]) w) := by
  go_enter Try.func35, Try.ntmps35
  go_wp2_with fail
  exact bodyPost_ret (results_tmp2 Try.results35 _ _ _) rfl ⟨rfl, Below.refl _ _⟩
theorem nil_read (n : Int) (w : World) : Calls Try.prog 39 #[.pointer none, .int .i64 n] w (RetB (.tuple #[.slice none 0 0, .int .i64 1]) w) := by
  go_enter Try.func39, Try.ntmps39
  go_wp2_with fail
  exact bodyPost_ret (results_tmp2 Try.results39 _ _ _) rfl ⟨rfl, Below.refl _ _⟩
theorem nil_head (w : World) : Calls Try.prog 49 #[.pointer none] w (RetB (.tuple #[.int .i64 (-1), .int .i64 0]) w) := by
  go_enter Try.func49, Try.ntmps49
  go_wp2_with fail
  exact bodyPost_ret (results_tmp2 Try.results49 _ _ _) rfl ⟨rfl, Below.refl _ _⟩
theorem nil_flush (w : World) : Calls Try.prog 34 #[.pointer none] w (RetB (.int .i64 1) w) := by
  go_enter Try.func34, Try.ntmps34
  go_wp2_with fail
  go_ret
  exact ⟨rfl, Below.refl _ _⟩
theorem nil_free (n : Int) (w : World) : Calls Try.prog 33 #[.pointer none, .int .i64 n] w (RetB (.int .i64 1) w) := by
  go_enter Try.func33, Try.ntmps33
  go_wp2_with fail
  go_ret
  exact ⟨rfl, Below.refl _ _⟩
theorem nil_gen (n : Int) (w : World) : Calls Try.prog 46 #[.pointer none, .int .i64 n] w (RetB (.int .u64 0) w) := by
  go_enter Try.func46, Try.ntmps46
  go_wp2_with fail
  go_ret
  exact ⟨rfl, Below.refl _ _⟩
theorem nil_room (w : World) : Calls Try.prog 44 #[.pointer none] w (RetB (.int .i64 0) w) := by
  go_enter Try.func44, Try.ntmps44
  go_wp2_with fail
  go_ret
  exact ⟨rfl, Below.refl _ _⟩
end Go.Proofs.Ythadomboiockhaa.Lo
/-
  Noughts are no sealed sector of any place of a small mirror, under the little sum.
-/
namespace Go.Proofs.Ythadomboiockhaa.Lo
open Go.RowKit Kd Sx
theorem zero_all2 : (List.range 256).all (fun k => !zeroB k) = true := by decide +kernel
theorem zero_no2 {k : Nat} (hk : k < 256) : okS litSumL (k : Int) zeroS = false := by
  have h := List.all_eq_true.1 zero_all2 k (List.mem_range.2 hk)
  have h2 : zeroB k = false := by simpa using h
  rw [okS]
  rw [show decide (sealedS litSumL (k : Int) (genS zeroS) (bodyS zeroS) = zeroS) = false from h2, Bool.and_false, Bool.and_false]
end Go.Proofs.Ythadomboiockhaa.Lo
/-
  Shapes that came in: how one is opened as its two numbers.
-/
namespace Go.Proofs.Ythadomboiockhaa.Sg
open Go.RowKit
/-- A number that an int can hold. -/
def i64B (n : Int) : Prop := -9223372036854775808 ≤ n ∧ n ≤ 9223372036854775807
section
open Go.ChangeShapes Go.WideShapes
variable {H : Type} {enc : TypeId × Value → H} {w : World} {base : Nat} {spare : Nat → Bool} {held : Bool} {r : Reach} {b0 : Nat}
theorem shape_fields : (Try.prog.fieldsOf 71).toList.map (fun f => (f.name == "_", f.type, f.offset)) = [(false, 3, 0), (false, 3, 1)] := by kernel_rfl
theorem shape_under : Try.prog.underlying 71 = some (.struct (Try.prog.fieldsOf 71)) := by kernel_rfl
set_option maxRecDepth 100000 in
theorem shape_of_trod {fuel : Nat} {cs : List Value} {x : DataW H × List MemPlace} (h : DataW.trod enc Try.prog w base spare held fuel 71 cs = some x) :
    ∃ a b : Int, cs = [.int .i64 a, .int .i64 b] ∧ i64B a ∧ i64B b := by
  obtain ⟨xs, n, _, _, hl, hlen, hf⟩ := DataW.trod_struct shape_under h
  have hfs := shape_fields
  have hcn : Try.prog.cellsOf 71 = 2 := by kernel_rfl
  have hci : Try.prog.cellsOf 3 = 1 := by kernel_rfl
  generalize Try.prog.fieldsOf 71 = fs at hfs hlen hf
  rw [hcn] at hl
  obtain ⟨L⟩ := fs
  have hL5 : L.length = 2 := by simpa using congrArg List.length hfs
  match L, hL5, hfs, hf, hlen with
  | [f0, f1], _, hfs, hf, hlen =>
    simp only [List.map_cons, List.map_nil, List.cons.injEq, Prod.mk.injEq, and_true] at hfs
    obtain ⟨⟨_, t0, o0⟩, ⟨_, t1, o1⟩⟩ := hfs
    have h5 : xs.length = 2 := hlen
    have g0 := hf 0 f0 rfl
    have g1 := hf 1 f1 rfl
    rw [t0, o0, hci, List.getElem?_eq_getElem (by omega)] at g0
    rw [t1, o1, hci, List.getElem?_eq_getElem (by omega)] at g1
    obtain ⟨a0, e0, _, w0⟩ := DataW.trod_int Try.underlying3 g0
    obtain ⟨a1, e1, _, w1⟩ := DataW.trod_int Try.underlying3 g1
    match cs, hl with
    | [u0, u1], _ =>
      simp at e0 e1
      exact ⟨a0, a1, by rw [e0, e1], bounds_i64 w0, bounds_i64 w1⟩
set_option maxRecDepth 100000 in
/-- A shape that came in by value. -/
theorem open_shape {v : Value} {d : DataW H} {ps : List MemPlace} (hval : Value.okWide Try.prog w r b0 71 v) (h : DataW.Trod enc Try.prog w base spare held 71 v d ps) :
    ∃ a b : Int, v = .agg #[.int .i64 a, .int .i64 b] ∧ i64B a ∧ i64B b := by
  obtain ⟨cs, rfl, hsz⟩ : ∃ cs, v = .agg cs ∧ cs.size = 2 := by
    have h1 := hval
    simp only [Value.okWide, shape_under] at h1
    obtain ⟨cs, e1, e2, _⟩ := h1
    exact ⟨cs, e1, by rw [e2]; kernel_rfl⟩
  obtain ⟨fuel, hf⟩ := h
  obtain ⟨a, b, e, ha, hb⟩ := shape_of_trod hf
  refine ⟨a, b, ?_, ha, hb⟩
  rw [← e]
  rfl
end
end Go.Proofs.Ythadomboiockhaa.Sg
/-
  A log one device of whose mirror was out for a while: what is found then is what is new.
-/
namespace Go.Proofs.Ythadomboiockhaa.Lo
open Go.RowKit Kd Mi Sx
section
variable {f : List UInt8 → List UInt8 → List UInt8}
theorem found_seen (L0 L1 : List (List UInt8)) (k : Nat) : foundAt f L0 L1 k = match seenA f L0 k, seenA f L1 k with
    | some a, some b => if a.1 < b.1 then some (k, b.1, b.2) else some (k, a.1, a.2)
    | some a, none => some (k, a.1, a.2)
    | none, some b => some (k, b.1, b.2)
    | none, none => none := by
  unfold foundAt bestS seenA
  generalize L0.getD k zeroS = x
  generalize L1.getD k zeroS = y
  by_cases h0 : okS f k x = true
  · by_cases h1 : okS f k y = true
    · by_cases hg : genS x < genS y
      · simp [h0, h1, hg]
      · simp [h0, h1, hg]
    · simp [h0, h1]
  · by_cases h1 : okS f k y = true
    · simp [h0, h1]
    · simp [h0, h1]
/-- What is found. -/
def elI (n : Nat) (old new : List UInt8) (i : Nat) : Nat × Nat × List UInt8 := if i = 0 then (2, 4, new) else (i + 2, i / n + 1, old)
def elItems (n : Nat) (old new : List UInt8) : List (Nat × Nat × List UInt8) := (List.range (3 * n)).map (elI n old new)
/-- What stands on the one that was in. -/
def newT (f : List UInt8 → List UInt8 → List UInt8) (n : Nat) (M : List (List UInt8)) (old new : List UInt8) : Prop :=
  ∀ i, i < 3 * n → seenA f M (i + 2) = some (if i = 0 then (4, new) else (i / n + 1, old))
theorem rep_getD {m i : Nat} {old : List UInt8} (h : i < m) : (List.replicate m old).getD i [] = old := by
  rw [List.getD_eq_getElem?_getD, List.getElem?_replicate, if_pos h]; rfl
theorem oldT {n : Nat} {L : List (List UInt8)} {old : List UInt8} (hL : hasT f n (3 * n) L (List.replicate (2 * n) old)) {i : Nat} (hi : i < 3 * n) : seenA f L (i + 2) = if i < 2 * n then some (i / n + 1, old) else none := by
  rw [hL i hi, List.length_replicate]
  split
  · rename_i h; rw [rep_getD h]
  · rfl
theorem el_first {n : Nat} (hn : 0 < n) {L M : List (List UInt8)} {old new : List UInt8} (hL : hasT f n (3 * n) L (List.replicate (2 * n) old)) (hM : newT f n M old new) {i : Nat} (hi : i < 3 * n) : foundAt f L M (i + 2) = some (elI n old new i) := by
  rw [found_seen, oldT hL hi, hM i hi]
  unfold elI
  by_cases h0 : i = 0
  · subst h0
    rw [if_pos (by omega), if_pos rfl, if_pos rfl]
    show (if 0 / n + 1 < 4 then _ else _) = _
    rw [Nat.zero_div, if_pos (by omega)]
  · rw [if_neg h0, if_neg h0]
    by_cases h1 : i < 2 * n
    · rw [if_pos h1]
      show (if i / n + 1 < i / n + 1 then _ else _) = _
      rw [if_neg (Nat.lt_irrefl _)]
    · rw [if_neg h1]
theorem el_second {n : Nat} (hn : 0 < n) {L M : List (List UInt8)} {old new : List UInt8} (hL : hasT f n (3 * n) L (List.replicate (2 * n) old)) (hM : newT f n M old new) {i : Nat} (hi : i < 3 * n) : foundAt f M L (i + 2) = some (elI n old new i) := by
  rw [found_seen, oldT hL hi, hM i hi]
  unfold elI
  by_cases h0 : i = 0
  · subst h0
    simp only [if_pos (show 0 < 2 * n by omega), ↓reduceIte]
    show (if 4 < 0 / n + 1 then _ else _) = _
    rw [Nat.zero_div, if_neg (by omega)]
  · rw [if_neg h0, if_neg h0]
    by_cases h1 : i < 2 * n
    · rw [if_pos h1]
      show (if i / n + 1 < i / n + 1 then _ else _) = _
      rw [if_neg (Nat.lt_irrefl _)]
    · rw [if_neg h1]
theorem el_base {n : Nat} {L0 L1 : List (List UInt8)} {old new : List UInt8} (h : ∀ i, i < 3 * n → foundAt f L0 L1 (i + 2) = some (elI n old new i)) : baseF f L0 L1 (2 + 3 * n) = elItems n old new := by
  rw [baseF, elItems, show 2 + 3 * n - 2 = 3 * n by omega, ← List.filterMap_eq_map]
  exact fm_congr fun i hi => h i (List.mem_range.1 hi)
theorem el_mem {n : Nat} (hn : 0 < n) {old new : List UInt8} : (2, 4, new) ∈ elItems n old new := List.mem_map.2 ⟨0, List.mem_range.2 (by omega), rfl⟩
theorem el_gen {n : Nat} {old new : List UInt8} {x : Nat × Nat × List UInt8} (hx : x ∈ elItems n old new) : 1 ≤ x.2.1 ∧ (x = (2, 4, new) ∨ x.2.1 ≤ 3) := by
  obtain ⟨i, hi, rfl⟩ := List.mem_map.1 hx
  have hi := List.mem_range.1 hi
  unfold elI
  by_cases h0 : i = 0
  · rw [if_pos h0]; exact ⟨by show 1 ≤ 4; omega, .inl rfl⟩
  · rw [if_neg h0]
    have h1 : i / n < 3 := Nat.div_lt_of_lt_mul (by rw [Nat.mul_comm]; exact hi)
    exact ⟨Nat.succ_pos _, .inr (Nat.succ_le_of_lt h1)⟩
end
/-- Of a row in its order the greatest is the last. -/
theorem last_of {l : List (Nat × Nat × List UInt8)} {y : Nat × Nat × List UInt8} (hs : l.Pairwise ltF) (hy : y ∈ l) (hmax : ∀ z ∈ l, z = y ∨ ltF z y) : l[l.length - 1]? = some y := by
  rcases List.eq_nil_or_concat l with rfl | ⟨r, z, rfl⟩
  · cases hy
  · rw [List.concat_eq_append] at *
    have hz : z = y := by
      rcases hmax z (by simp) with h | h
      · exact h
      · rcases List.mem_append.1 hy with h1 | h1
        · have h2 := (List.pairwise_append.1 hs).2.2 y h1 z (by simp)
          exact absurd (ltFtrans h h2) ltFirrefl
        · exact (List.mem_singleton.1 h1).symm
    subst hz
    simp
theorem fold_shape : ∀ (base : List (Nat × Nat × List UInt8)) (l : Lg), (base.foldl Lg.learn l).gens.length = l.gens.length ∧ (base.foldl Lg.learn l).size = l.size
  | [], _ => ⟨rfl, rfl⟩
  | x :: base, l => by
    obtain ⟨h1, h2⟩ := fold_shape base (l.learn x)
    exact ⟨h1.trans (by show (l.gens.set _ _).length = _; rw [List.length_set]), h2⟩
theorem learn_getD (l : Lg) (x : Nat × Nat × List UInt8) {k : Nat} (hk : k < l.gens.length) : (l.learn x).gens.getD k 0 = if (x.1 - 2) / l.size = k then max (l.gens.getD k 0) x.2.1 else l.gens.getD k 0 := by
  show (l.gens.set _ _).getD k 0 = _
  by_cases h : (x.1 - 2) / l.size = k
  · rw [if_pos h, h, List.getD_eq_getElem?_getD, List.getElem?_set_self hk]; rfl
  · rw [if_neg h, List.getD_eq_getElem?_getD, List.getElem?_set_ne h, ← List.getD_eq_getElem?_getD]
theorem fold_le {v k : Nat} : ∀ (base : List (Nat × Nat × List UInt8)) (l : Lg), k < l.gens.length → (∀ x ∈ base, x.2.1 ≤ v) → l.gens.getD k 0 ≤ v → (base.foldl Lg.learn l).gens.getD k 0 ≤ v
  | [], _, _, _, h => h
  | x :: base, l, hk, hb, h => by
    refine fold_le base (l.learn x) (by show k < (l.gens.set _ _).length; rw [List.length_set]; exact hk) (fun y hy => hb y (List.mem_cons_of_mem _ hy)) ?_
    rw [learn_getD l x hk]
    have := hb x List.mem_cons_self
    split <;> omega
theorem fold_ge {v k sz : Nat} : ∀ (base : List (Nat × Nat × List UInt8)) (l : Lg), k < l.gens.length → l.size = sz → (v ≤ l.gens.getD k 0 ∨ ∃ x ∈ base, (x.1 - 2) / sz = k ∧ v ≤ x.2.1) → v ≤ (base.foldl Lg.learn l).gens.getD k 0
  | [], _, _, _, h => by
    rcases h with h | ⟨x, hx, _⟩
    · exact h
    · cases hx
  | x :: base, l, hk, hz, h => by
    refine fold_ge base (l.learn x) (by show k < (l.gens.set _ _).length; rw [List.length_set]; exact hk) hz ?_
    rw [learn_getD l x hk, hz]
    rcases h with h | ⟨y, hy, h1, h2⟩
    · left; split <;> omega
    · rcases List.mem_cons.1 hy with rfl | hy
      · left; rw [if_pos h1]; omega
      · exact .inr ⟨y, hy, h1, h2⟩
/-- What the opened log knows of the first segment. -/
theorem el_gens {n : Nat} (hn : 0 < n) {old new : List UInt8} {l : List (Nat × Nat × List UInt8)} (hp : l.Perm (elItems n old new)) : (l.foldl Lg.learn (Lg.new 3 n)).gens.getD 0 0 = 4 := by
  have h1 := fold_le (v := 4) (k := 0) l (Lg.new 3 n) (by simp [Lg.new]) (fun x hx => by rcases (el_gen (hp.mem_iff.1 hx)).2 with rfl | h; exact Nat.le_refl _; omega) (by simp [Lg.new])
  have h2 := fold_ge (v := 4) (k := 0) (sz := n) l (Lg.new 3 n) (by simp [Lg.new]) rfl (.inr ⟨(2, 4, new), hp.mem_iff.2 (el_mem hn), by simp, Nat.le_refl _⟩)
  omega
theorem el_last {n : Nat} (hn : 0 < n) {old new : List UInt8} {fd : List Fd} (hp : (fd.map Fd.it).Perm (elItems n old new)) (hs : (fd.map Fd.it).Pairwise ltF) : ∃ x, fd[fd.length - 1]? = some x ∧ x.at_ = 2 ∧ x.gen = 4 ∧ x.b = new ∧ 0 < fd.length := by
  have h := last_of hs (hp.mem_iff.2 (el_mem hn)) (fun z hz => by
    rcases (el_gen (hp.mem_iff.1 hz)).2 with h | h
    · exact .inl h
    · exact .inr (.inl (by show z.2.1 < 4; omega)))
  rw [List.length_map, List.getElem?_map] at h
  cases hx : fd[fd.length - 1]? with
  | none => rw [hx] at h; cases h
  | some x =>
    rw [hx] at h
    simp only [Option.map_some, Option.some.injEq] at h
    have h2 : (x.at_, x.gen, x.b) = (2, 4, new) := h
    injection h2 with e1 e2
    injection e2 with e2 e3
    refine ⟨x, rfl, e1, e2, e3, ?_⟩
    have := (List.getElem?_eq_some_iff.1 hx).1
    omega
theorem two_read {L M : List (List UInt8)} {n k : Nat} {f : Int → List UInt8 → Bool} (hk : k < n) {y : List UInt8} (h0 : L.getD k zeroS = y) (h1 : f (k : Int) y = true) : (Sc.startM L M n).read f (k : Int) = (y, 0) := by
  have hh : (Sc.startM L M n).has (k : Int) = true := by rw [Md.has, Sc.start_len]; simp; omega
  have hr : (Sc.startM L M n).right f 0 k = true := by
    rw [Md.right]
    show (!((List.replicate n false).getD k false) && (!false && f (k : Int) (L.getD k zeroS))) = _
    rw [h0, h1, show (List.replicate n false).getD k false = false by rw [List.getD_eq_getElem?_getD, List.getElem?_replicate]; split <;> rfl]; rfl
  rw [Md.read, hh, if_pos rfl, Int.toNat_natCast, hr, if_pos rfl]
  show (L.getD k zeroS, (0 : Int)) = _
  rw [h0]
/-- What Read tells of the second sector. -/
theorem el_read {n b : Nat} (hn : 0 < n) {L0 L1 : List (List UInt8)} {new : List UInt8} {l : Lg} (h0 : L0.length = 2 + 3 * n) (hf : foundAt litS.f L0 L1 2 = some (2, 4, new)) (hl : l.gens.length = 3) (hz : l.size = n) (hg : l.gens.getD 0 0 = 4) :
    readX (gdS litS b) (Sc.startM (chosen litS.f L0 L1 L0 (3 * n)) (chosen litS.f L0 L1 L1 (3 * n)) (2 + 3 * n)) l 2 = (new, 0) := by
  rw [foundAt] at hf
  cases hb : bestS litS.f L0 L1 2 with
  | none => rw [hb] at hf; cases hf
  | some s =>
    rw [hb] at hf
    simp only [Option.map_some, Option.some.injEq, Prod.mk.injEq, true_and] at hf
    have hok := (best_ok litS.f hb).1
    have hc : (chosen litS.f L0 L1 L0 (3 * n)).getD 2 zeroS = s := by rw [chosen_at litS.f L0 L1 L0 (by omega), if_pos (by omega), hb]; rfl
    have hr := two_read (M := chosen litS.f L0 L1 L1 (3 * n)) (n := 2 + 3 * n) (f := (gdS litS b).f) (show 2 < 2 + 3 * n by omega) hc hok
    have e2 : ((2 : Nat) : Int) = 2 := rfl
    rw [e2] at hr
    have hok' : okS litS.f 2 s = true := hok
    unfold readX
    rw [hr, hl, hz, show ((2 : Int).toNat - 2) / n = 0 by simp, hg, if_pos ⟨by omega, by omega, by omega⟩, if_pos rfl]
    show (if okS litS.f 2 s = true ∧ genS s = 4 then (bodyS s, (0 : Int)) else ([], 9)) = _
    rw [if_pos ⟨hok', hf.1⟩, hf.2]
/-! ### While one device is out -/
/-- The mirror, while one device (the second one, if w) is out, which has L. -/
def mdW (w : Bool) (L M : List (List UInt8)) (a b : List Bool) : Md := if w then ⟨M, L, false, true, a, b⟩ else ⟨L, M, true, false, a, b⟩
theorem mdW_write {w : Bool} {L M : List (List UInt8)} {a b : List Bool} {n k : Nat} (hk : k < n) (ha : a.length = n) (y : List UInt8) : ∃ a' b', a'.length = n ∧ (mdW w L M a b).write (k : Int) y = (0, mdW w L (M.set k y) a' b') := by
  cases w
  · have hh : (mdW false L M a b).has (k : Int) = true := by rw [Md.has, show (mdW false L M a b).a.length = n from ha]; simp; omega
    refine ⟨a.set k true, b.set k false, by rw [List.length_set]; exact ha, ?_⟩
    rw [Md.write, hh, if_pos rfl, if_neg (by show ¬ (true && false) = true; simp), Int.toNat_natCast]
    rfl
  · have hh : (mdW true L M a b).has (k : Int) = true := by rw [Md.has, show (mdW true L M a b).a.length = n from ha]; simp; omega
    refine ⟨a.set k false, b.set k true, by rw [List.length_set]; exact ha, ?_⟩
    rw [Md.write, hh, if_pos rfl, if_neg (by show ¬ (false && true) = true; simp), Int.toNat_natCast]
    rfl
theorem lgFull3 {n : Nat} (hn : 0 < n) : lgT n 3 (3 * n) = ⟨n, [1, 2, 3], 3, some (2, n)⟩ := by
  rw [lgT, Nat.mul_div_cancel _ hn, Nat.mul_mod_left]
  rfl
theorem full_free (n : Nat) : (⟨n, [1, 2, 3], 3, some (2, n)⟩ : Lg).freeE 0 = 0 := rfl
theorem full_next (n : Nat) : ((⟨n, [1, 2, 3], 3, some (2, n)⟩ : Lg).free 0).next = some (0, 0, 4) := by
  show (if n < n then some (2, n, [0, 2, 3].getD 2 0) else (freeK [0, 2, 3]).map fun k => (k, 0, 3 + 1)) = _
  rw [if_neg (Nat.lt_irrefl _)]; rfl
section
variable {p g1 g2 bx g q : Nat} {w0 w w' : World} {s : Mr (Mu.one p g1 g2)} {F : Nat → Prop} {n m j : Nat} {L M : List (List UInt8)} {a b : List Bool} {which : Bool} {old : List UInt8}
/-- One more body, while one is out. -/
theorem el_append (h : LgM p g1 g2 (gdS litS bx) g q w0 w s (lgT n 3 (2 * n + j)) F (mdW which L M a b) m) (hn : 0 < n ∧ n ≤ 4) (hj : j < n) (hm : m < 900000) (ha : a.length = 2 + 3 * n) (hM : M.length = 2 + 3 * n) (hT : hasT litS.f n (3 * n) M (List.replicate (2 * n + j) old))
    (A : Option Addr) (k c : Nat) (hb : old.length = k) (hb3 : k ≤ 103) (hr : Rd w.heap.size w A (bv old)) :
    Calls Try.prog 35 #[.pointer (some ⟨q, 0, none⟩), .slice A k c] w (fun e w' => ∃ v s' F' M' a' b', e = .returned (.tuple #[.int .i64 v, .int .i64 0]) ∧ LgM p g1 g2 (gdS litS bx) g q w0 w' s' (lgT n 3 (2 * n + (j + 1))) F' (mdW which L M' a' b') (m + 2) ∧ Mv (LogL (Mu.one p g1 g2) (gdS litS bx) g q litS) w F w' (s', lgT n 3 (2 * n + (j + 1))) F' ∧
      a'.length = 2 + 3 * n ∧ M'.length = 2 + 3 * n ∧ hasT litS.f n (3 * n) M' (List.replicate (2 * n + (j + 1)) old)) := by
  have hat : (lgT n 3 (2 * n + j)).at_ ((2 * n + j) / n, (2 * n + j) % n, (2 * n + j) / n + 1) = 2 + (2 * n + j) := at_T
  obtain ⟨a', b', ha', hw⟩ := mdW_write (w := which) (L := L) (M := M) (b := b) (k := 2 + (2 * n + j)) (by omega) ha (sealedS litS.f ((2 + (2 * n + j) : Nat) : Int) ((2 * n + j) / n + 1) old)
  have hl := lgTlast n 3 (2 * n + j)
  have hc := lgm_append h hm (by omega) hn.1 (next_T hn.1 (by omega)) A k c old hb hb3 hr (by rw [hat, hw])
  rw [hat, hw, put_T hn.1] at hc
  refine hc.mono ?_
  rintro e w' ⟨rfl, s', F', hlg, hmv⟩
  refine ⟨_, s', F', _, a', b', rfl, hlg, hmv, ha', by rw [List.length_set]; exact hM, ?_⟩
  have h2 := hasTsnoc litSumL_length hT (b := old) (by omega) (by rw [List.length_replicate]; omega) (by omega) (by omega)
  rw [List.length_replicate, ← List.replicate_succ'] at h2
  exact h2
/-- A newer one, where a segment was freed. -/
theorem el_new {new : List UInt8} (h : LgM p g1 g2 (gdS litS bx) g q w0 w s ((⟨n, [1, 2, 3], 3, some (2, n)⟩ : Lg).free 0) F (mdW which L M a b) m) (hn : 0 < n ∧ n ≤ 4) (hm : m < 900000) (ha : a.length = 2 + 3 * n) (hM : M.length = 2 + 3 * n) (hT : hasT litS.f n (3 * n) M (List.replicate (3 * n) old))
    (A : Option Addr) (k c : Nat) (hb : new.length = k) (hb3 : k ≤ 103) (hr : Rd w.heap.size w A (bv new)) :
    Calls Try.prog 35 #[.pointer (some ⟨q, 0, none⟩), .slice A k c] w (fun e w' => ∃ l s' F' M' a' b', e = .returned (.tuple #[.int .i64 2, .int .i64 0]) ∧ LgM p g1 g2 (gdS litS bx) g q w0 w' s' l F' (mdW which L M' a' b') (m + 2) ∧ Mv (LogL (Mu.one p g1 g2) (gdS litS bx) g q litS) w F w' (s', l) F' ∧
      a'.length = 2 + 3 * n ∧ M'.length = 2 + 3 * n ∧ newT litS.f n M' old new) := by
  have hat : ((⟨n, [1, 2, 3], 3, some (2, n)⟩ : Lg).free 0).at_ (0, 0, 4) = 2 := by show 2 + 0 * n + 0 = 2; omega
  obtain ⟨a', b', ha', hw⟩ := mdW_write (w := which) (L := L) (M := M) (b := b) (k := 2) (by omega) ha (sealedS litS.f ((2 : Nat) : Int) 4 new)
  have hc := lgm_append h hm (by show 3 < 1000000; omega) hn.1 (full_next n) A k c new hb hb3 hr (by rw [hat, hw])
  rw [hat, hw] at hc
  refine hc.mono ?_
  rintro e w' ⟨rfl, s', F', hlg, hmv⟩
  refine ⟨_, s', F', _, a', b', rfl, hlg, hmv, ha', by rw [List.length_set]; exact hM, fun i hi => ?_⟩
  rw [seen_set (f := litS.f) litSumL_length (by omega) (by omega) (by omega) (by omega)]
  by_cases h0 : i = 0
  · rw [if_pos (by omega), if_pos h0]
  · rw [if_neg (by omega), if_neg h0, hT i hi, List.length_replicate, if_pos hi, rep_getD hi]
theorem mdW_both : ((mdW which L M a b).o0 && (mdW which L M a b).o1) = false := by cases which <;> rfl
/-- Both are in again; a mirror is made anew, a log is opened on it. -/
theorem el_open {L0 L1 : List (List UInt8)} {new : List UInt8} (h : Mu.LM p g1 g2 (gdS litS bx) g w0 w s F (Sc.startM L0 L1 (2 + 3 * n)) m) (h0 : L0.length = 2 + 3 * n) (h1 : L1.length = 2 + 3 * n) (hm : m < 800000) (hn : 0 < n ∧ n ≤ 4) (hok : Sg.okS (3 : Int) (n : Int)) (hf : ∀ i, i < 3 * n → foundAt litS.f L0 L1 (i + 2) = some (elI n old new i)) :
    Calls Try.prog 41 #[.pointer (some ⟨g, 0, none⟩), litS.v, .agg #[.int .i64 3, .int .i64 n]] w (fun e w' => ∃ (q : Nat) (A : Option Addr) (k c : Nat) (fd : List Fd) (lo : Lg) (s' : Mr (Mu.one p g1 g2)) (F' FF : Nat → Prop) (y : Fd) (X0 X1 : List (List UInt8)), e = .returned (.tuple #[.pointer (some ⟨q, 0, none⟩), .slice A k c, .int .i64 0]) ∧
      LgM p g1 g2 (gdS litS bx) g q w0 w' s' lo F' (Sc.startM X0 X1 (2 + 3 * n)) 0 ∧ (FdL A k c).At w' fd FF ∧ fd[k - 1]? = some y ∧ (y.at_ = 2 ∧ y.gen = 4 ∧ y.b = new) ∧ (0 < k ∧ k < 1000) ∧ lo.gens.getD 0 0 = 4 ∧ readX (gdS litS bx) (Sc.startM X0 X1 (2 + 3 * n)) lo 2 = (new, 0) ∧
      (∀ j, F' j → F j ∨ w.heap.size ≤ j) ∧ (∀ j, FF j → w.heap.size ≤ j) ∧ (∀ j, F' j → FF j → False) ∧ But F w w') := by
  have hb : baseF litS.f L0 L1 (2 + 3 * n) = elItems n old new := el_base hf
  refine (open_any h h0 h1 hm 3 n hok (Nat.le_refl _) (by rw [hb]; exact fun x hx => (el_gen hx).1)).mono ?_
  rintro e w' ⟨q, A, k, c, fd, s', F', FF, rfl, hlg, hfd, hp, hs, r1, r2, r3, r4⟩
  rw [hb] at hp
  obtain ⟨y, hy, e1, e2, e3, hk⟩ := el_last hn.1 hp hs
  have hk2 : fd.length < 1000 := by
    have h2 := hp.length_eq
    rw [List.length_map, elItems, List.length_map, List.length_range] at h2
    omega
  have hl : fd.length = k := fd_len hfd
  have hg := el_gens hn.1 hp
  obtain ⟨z1, z2⟩ := fold_shape (fd.map Fd.it) (Lg.new 3 n)
  have hfirst := hf 0 (by omega)
  exact ⟨q, A, k, c, fd, _, s', F', FF, y, _, _, rfl, hlg, hfd, by rw [← hl]; exact hy, ⟨e1, e2, e3⟩, by omega, hg, el_read hn.1 h0 hfirst (z1.trans (by simp [Lg.new])) z2 hg, r1, r2, r3, r4⟩
end
end Go.Proofs.Ythadomboiockhaa.Lo
