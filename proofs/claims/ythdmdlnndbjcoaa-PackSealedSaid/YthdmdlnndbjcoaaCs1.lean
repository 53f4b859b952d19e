/-
  Texts of this seat, one behind the other: KdPure, SxPure, CiLay, SxLit, SxCiph, SxSum, EqSelf, EqBytes, KdBase, SxPack, SxSlice, SxUnpack.
-/
import Derived.ProofKit
import Derived.Laws.CopyOwn
import Derived.Test.YthdmdlnndbjcoaaRows
import Derived.IntWalk
import Derived.Deep.RegionHeld
import Derived.Laws.Tables
import Derived.ChangeKeysEq
import Derived.Test.YthdmdlnndbjcoaaProg
import Derived.Laws.Slices
import Derived.Test.YthdmdlnndbjcoaaCb1
/-
  Layer 8, pure: devices, what waits, power, as the document says. No program.
-/
namespace Go.Proofs.Ythdmdlnndbjcoaa.Kd
/-- A device: stable sectors, the writes that wait, what it was told. -/
structure Dv where
  st : List (List UInt8)
  wt : List (Nat × List UInt8)
  kept : Int
  bytes : Int
  lies : Bool
  gone : Bool
/-- Power: is it off; behind how many operations it fails. -/
structure Pw where
  off : Bool
  left : Int
def zeroS : List UInt8 := List.replicate 128 0
def nowL (st : List (List UInt8)) (ws : List (Nat × List UInt8)) (n : Nat) : List UInt8 := ws.foldl (fun s w => if w.1 = n then w.2 else s) (st.getD n zeroS)
def flushL (st : List (List UInt8)) (ws : List (Nat × List UInt8)) : List (List UInt8) := ws.foldl (fun st w => st.set w.1 w.2) st
/-- A torn write. -/
def tornL (bytes : Int) (s t : List UInt8) : List UInt8 := s.take bytes.toNat ++ t.drop bytes.toNat
def fallL (kept bytes : Int) : Nat → List (Nat × List UInt8) → List (List UInt8) → List (List UInt8)
  | _, [], st => st
  | k, w :: ws, st => fallL kept bytes (k + 1) ws (if (k : Int) < kept then st.set w.1 w.2 else if (k : Int) = kept then st.set w.1 (tornL bytes w.2 (st.getD w.1 zeroS)) else st)
def Dv.fall (d : Dv) : Dv := if d.gone then d else { d with st := fallL d.kept d.bytes 0 d.wt d.st, wt := [] }
def Dv.now (d : Dv) (n : Nat) : List UInt8 := nowL d.st d.wt n
/-- An operation: does power fail at it? -/
def Pw.fails (p : Pw) : Bool := decide (0 ≤ p.left) && decide (p.left - 1 < 0)
def Pw.step (p : Pw) : Pw := if p.left < 0 then p else ⟨decide (p.left - 1 < 0), p.left - 1⟩
/-- May an operation at a sector be done? 13: down; 2: no such one. -/
def refuseN (p : Pw) (d : Dv) (n : Int) : Int := if p.off || d.gone then 13 else if n < 0 ∨ (d.st.length : Int) ≤ n then 2 else 0
/-- All of a power's devices. -/
structure Sy where
  p : Pw
  ds : List Dv
def Sy.count (S : Sy) : Sy := if S.p.fails then ⟨S.p.step, S.ds.map Dv.fall⟩ else ⟨S.p.step, S.ds⟩
def Sy.put (S : Sy) (i : Nat) (d : Dv) : Sy := ⟨S.p, S.ds.set i d⟩
def noDv : Dv := ⟨[], [], 0, 0, false, false⟩
def Sy.at (S : Sy) (i : Nat) : Dv := S.ds.getD i noDv
def Sy.write (S : Sy) (i : Nat) (n : Int) (s : List UInt8) : Int × Sy :=
  let d := S.at i
  if refuseN S.p d n ≠ 0 then (refuseN S.p d n, S)
  else (if S.p.fails then 13 else 0, (S.put i { d with wt := d.wt ++ [(n.toNat, s)] }).count)
def Sy.flush (S : Sy) (i : Nat) : Int × Sy :=
  let d := S.at i
  if S.p.off || d.gone then (13, S)
  else if S.p.fails then (13, S.count)
  else (0, if d.lies then S.count else S.count.put i { d with st := flushL d.st d.wt, wt := [] })
def Sy.read (S : Sy) (i : Nat) (n : Int) : Int × List UInt8 :=
  let d := S.at i
  if refuseN S.p d n ≠ 0 then (refuseN S.p d n, zeroS) else (0, d.now n.toNat)

/-! ### What is read -/
theorem now_snoc (st : List (List UInt8)) (ws : List (Nat × List UInt8)) (m : Nat) (s : List UInt8) (n : Nat) : nowL st (ws ++ [(m, s)]) n = if m = n then s else nowL st ws n := by
  rw [nowL, List.foldl_append]; rfl
theorem set_getD (st : List (List UInt8)) (m k : Nat) (s : List UInt8) (hk : k < st.length) : (st.set m s).getD k zeroS = if m = k then s else st.getD k zeroS := by
  rw [List.getD_eq_getElem?_getD, List.getD_eq_getElem?_getD, List.getElem?_set]
  split
  · rename_i h; subst h; simp [hk]
  · rfl
theorem flush_length : ∀ (ws : List (Nat × List UInt8)) (st : List (List UInt8)), (flushL st ws).length = st.length
  | [], _ => rfl
  | w :: ws, st => by rw [flushL, List.foldl_cons]; exact (flush_length ws (st.set w.1 w.2)).trans (by simp)
theorem now_cons (st : List (List UInt8)) (w : Nat × List UInt8) (ws : List (Nat × List UInt8)) (k : Nat) (hk : k < st.length) : nowL st (w :: ws) k = nowL (st.set w.1 w.2) ws k := by
  rw [nowL, List.foldl_cons, nowL, set_getD _ _ _ _ hk]
/-- What is flushed is what was read. -/
theorem flush_get : ∀ (ws : List (Nat × List UInt8)) (st : List (List UInt8)) (k : Nat), k < st.length → (flushL st ws).getD k zeroS = nowL st ws k
  | [], _, _, _ => rfl
  | w :: ws, st, k, hk => by
    rw [now_cons st w ws k hk]
    exact flush_get ws (st.set w.1 w.2) k (by simpa using hk)
theorem flush_nil (st : List (List UInt8)) (k : Nat) : nowL st [] k = st.getD k zeroS := rfl
theorem flush_now (st : List (List UInt8)) (ws : List (Nat × List UInt8)) : flushL st ws = (List.range st.length).map (nowL st ws) := by
  apply List.ext_getElem?
  intro k
  by_cases hk : k < st.length
  · have h := flush_get ws st k hk
    have hl : k < (flushL st ws).length := by rw [flush_length]; exact hk
    rw [List.getD_eq_getElem?_getD, List.getElem?_eq_getElem hl] at h
    rw [List.getElem?_eq_getElem hl, List.getElem?_map, List.getElem?_range hk]
    exact congrArg some h
  · rw [List.getElem?_eq_none (by rw [flush_length]; omega), List.getElem?_eq_none (by simp; omega)]
theorem fall_length : ∀ (kept bytes : Int) (ws : List (Nat × List UInt8)) (k : Nat) (st : List (List UInt8)), (fallL kept bytes k ws st).length = st.length
  | _, _, [], _, _ => rfl
  | kept, bytes, w :: ws, k, st => by
    rw [fallL, fall_length kept bytes ws]
    split
    · simp
    · split
      · simp
      · rfl
/-- All of a device's sectors are sectors. -/
structure Dv.ok (d : Dv) : Prop where
  st : ∀ s ∈ d.st, s.length = 128
  wt : ∀ w ∈ d.wt, w.1 < d.st.length ∧ w.2.length = 128
  kept : 0 ≤ d.kept
  bytes : 0 ≤ d.bytes ∧ d.bytes ≤ 128
  len : d.st.length ≤ 4096
theorem torn_length {bytes : Int} {s t : List UInt8} (hs : s.length = 128) (ht : t.length = 128) (hb : 0 ≤ bytes ∧ bytes ≤ 128) : (tornL bytes s t).length = 128 := by
  rw [tornL, List.length_append, List.length_take, List.length_drop]; omega
theorem zeroS_length : zeroS.length = 128 := by rw [zeroS, List.length_replicate]
theorem getD_ok {st : List (List UInt8)} (h : ∀ s ∈ st, s.length = 128) (k : Nat) : (st.getD k zeroS).length = 128 := by
  rw [List.getD_eq_getElem?_getD]
  by_cases hk : k < st.length
  · rw [List.getElem?_eq_getElem hk]; exact h _ (List.getElem_mem hk)
  · rw [List.getElem?_eq_none (by omega)]; exact zeroS_length
theorem set_ok {st : List (List UInt8)} {s : List UInt8} (h : ∀ s ∈ st, s.length = 128) (hs : s.length = 128) (k : Nat) : ∀ t ∈ st.set k s, t.length = 128 := fun t ht => by
  rcases List.mem_or_eq_of_mem_set ht with h1 | h1
  · exact h t h1
  · rw [h1]; exact hs
theorem now_ok : ∀ (ws : List (Nat × List UInt8)) (st : List (List UInt8)) (k : Nat), (∀ s ∈ st, s.length = 128) → (∀ w ∈ ws, w.2.length = 128) → (nowL st ws k).length = 128 := by
  intro ws st k h hw
  rw [nowL]
  have : ∀ (ws : List (Nat × List UInt8)) (s : List UInt8), s.length = 128 → (∀ w ∈ ws, w.2.length = 128) → (ws.foldl (fun s w => if w.1 = k then w.2 else s) s).length = 128 := by
    intro ws
    induction ws with
    | nil => exact fun s hs _ => hs
    | cons w ws ih =>
      intro s hs hw
      rw [List.foldl_cons]
      refine ih _ ?_ (fun v hv => hw v (by simp [hv]))
      split
      · exact hw w (by simp)
      · exact hs
  exact this ws _ (getD_ok h k) hw
theorem flush_ok : ∀ (ws : List (Nat × List UInt8)) (st : List (List UInt8)), (∀ s ∈ st, s.length = 128) → (∀ w ∈ ws, w.2.length = 128) → ∀ s ∈ flushL st ws, s.length = 128
  | [], _, h, _ => h
  | w :: ws, st, h, hw => by
    have := flush_ok ws (st.set w.1 w.2) (set_ok h (hw w (by simp)) _) (fun v hv => hw v (by simp [hv]))
    exact this
theorem fall_ok : ∀ (kept bytes : Int) (ws : List (Nat × List UInt8)) (k : Nat) (st : List (List UInt8)), 0 ≤ bytes ∧ bytes ≤ 128 → (∀ s ∈ st, s.length = 128) → (∀ w ∈ ws, w.2.length = 128) → ∀ s ∈ fallL kept bytes k ws st, s.length = 128
  | _, _, [], _, _, _, h, _ => h
  | kept, bytes, w :: ws, k, st, hb, h, hw => by
    rw [fallL]
    refine fall_ok kept bytes ws (k + 1) _ hb ?_ (fun v hv => hw v (by simp [hv]))
    split
    · exact set_ok h (hw w (by simp)) _
    · split
      · exact set_ok h (torn_length (hw w (by simp)) (getD_ok h _) hb) _
      · exact h
/-- Writes of the sectors k, k + 1 .. as they wait, torn. -/
theorem fall_run (kept bytes : Int) (f : Nat → List UInt8) : ∀ (n k : Nat) (st : List (List UInt8)), k + n ≤ st.length → ∀ i, i < st.length →
    (fallL kept bytes k ((List.range' k n).map fun j => (j, f j)) st).getD i zeroS = if k ≤ i ∧ i < k + n then (if (i : Int) < kept then f i else if (i : Int) = kept then tornL bytes (f i) (st.getD i zeroS) else st.getD i zeroS) else st.getD i zeroS
  | 0, k, st, _, i, _ => by
    rw [if_neg (by omega)]; rfl
  | n + 1, k, st, hl, i, hi => by
    rw [List.range'_succ, List.map_cons, fallL]
    obtain ⟨t, ht⟩ : ∃ t, t = (if (k : Int) < kept then st.set k (f k) else if (k : Int) = kept then st.set k (tornL bytes (f k) (st.getD k zeroS)) else st) := ⟨_, rfl⟩
    have htl : t.length = st.length := by rw [ht]; split <;> (try split) <;> simp
    have hg : ∀ j, j < st.length → j ≠ k → t.getD j zeroS = st.getD j zeroS := fun j hj hne => by
      rw [ht]
      split
      · rw [set_getD _ _ _ _ hj, if_neg (by omega)]
      · split
        · rw [set_getD _ _ _ _ hj, if_neg (by omega)]
        · rfl
    have h := fall_run kept bytes f n (k + 1) t (by omega) i (by omega)
    show (fallL kept bytes (k + 1) ((List.range' (k + 1) n).map fun j => (j, f j)) (if (k : Int) < kept then st.set k (f k) else if (k : Int) = kept then st.set k (tornL bytes (f k) (st.getD k zeroS)) else st)).getD i zeroS = _
    rw [← ht, h]
    by_cases hik : i = k
    · subst hik
      rw [if_neg (show ¬ (i + 1 ≤ i ∧ i < i + 1 + n) by omega), if_pos (show i ≤ i ∧ i < i + (n + 1) by omega), ht]
      split
      · rw [set_getD _ _ _ _ hi, if_pos rfl]
      · split
        · rw [set_getD _ _ _ _ hi, if_pos rfl]
        · rfl
    · rw [hg i hi hik]
      by_cases h1 : k + 1 ≤ i ∧ i < k + 1 + n
      · rw [if_pos h1, if_pos (show k ≤ i ∧ i < k + (n + 1) by omega)]
      · rw [if_neg h1, if_neg (show ¬ (k ≤ i ∧ i < k + (n + 1)) by omega)]
end Go.Proofs.Ythdmdlnndbjcoaa.Kd
/-
  A sealed sector, as the document tells of it, by any sum. No program but for wire's.
-/
namespace Go.Proofs.Ythdmdlnndbjcoaa.Sx
open Go.RowKit Kd
theorem putL_more (n s : Nat) : Wi.putL n (s + 1) = Wi.putL (n / 256) s ++ [UInt8.ofNat (n % 256)] := by
  unfold Wi.putL
  rw [List.range_succ, List.map_append, List.map_singleton]
  congr 1
  · refine List.map_congr_left fun i hi => ?_
    have hi := List.mem_range.1 hi
    rw [Nat.div_div_eq_div_mul, show s + 1 - 1 - i = (s - 1 - i) + 1 by omega, show 8 * (s - 1 - i + 1) = 8 + 8 * (s - 1 - i) by omega, Nat.pow_add]
  · rw [show s + 1 - 1 - s = 0 by omega]; simp
theorem getL_putL (n : Nat) : ∀ s, Wi.getL (Wi.putL n s) = n % 2 ^ (8 * s) := by
  intro s
  induction s generalizing n with
  | zero => simp [Wi.putL, Wi.getL]; omega
  | succ s ih =>
    rw [putL_more]
    unfold Wi.getL
    rw [List.foldl_append]
    show (Wi.getL (Wi.putL (n / 256) s)) * 256 + (UInt8.ofNat (n % 256)).toNat = _
    rw [ih, UInt8.toNat_ofNat', show 8 * (s + 1) = 8 + 8 * s by omega, Nat.pow_add]
    rw [Nat.mod_mul, show (2:Nat) ^ 8 = 256 from rfl]
    omega
theorem get_put8 {n : Nat} (h : n < 18446744073709551616) : Wi.getL (Wi.putL n 8) = n := by
  rw [getL_putL]; exact Nat.mod_eq_of_lt h
theorem get_put4 {n : Nat} (h : n < 4096) : Wi.getL (Wi.putL n 4) = n := by
  rw [getL_putL]; exact Nat.mod_eq_of_lt (by omega)
/-- A key of noughts. -/
def key0 : List UInt8 := List.replicate 32 0
theorem key0_length : key0.length = 32 := rfl
/-- What stands behind the sum. -/
def restL (gen : Nat) (b : List UInt8) : List UInt8 := Wi.putL gen 8 ++ UInt8.ofNat b.length :: (b ++ List.replicate (103 - b.length) 0)
theorem restL_length {gen : Nat} {b : List UInt8} (h : b.length ≤ 103) : (restL gen b).length = 112 := by
  simp [restL, Wi.putL_length]; omega
theorem size_byte {n : Nat} (h : n ≤ 103) : (UInt8.ofNat n).toNat = n := by rw [UInt8.toNat_ofNat']; omega
theorem restL_get {gen : Nat} {b : List UInt8} : (restL gen b).take 8 = Wi.putL gen 8 := by
  rw [restL, List.take_append_of_le_length (by rw [Wi.putL_length]; omega), List.take_of_length_le (by rw [Wi.putL_length]; omega)]
theorem restL_size {gen : Nat} {b : List UInt8} : (restL gen b).getD 8 0 = UInt8.ofNat b.length := by
  rw [List.getD_eq_getElem?_getD, restL, List.getElem?_append_right (by rw [Wi.putL_length]; omega), Wi.putL_length]; rfl
theorem restL_body {gen : Nat} {b : List UInt8} : ((restL gen b).drop 9).take b.length = b := by
  rw [restL, List.drop_append, Wi.putL_length, List.drop_eq_nil_of_le (by rw [Wi.putL_length]; omega), List.nil_append, show 9 - 8 = 1 from rfl, List.drop_succ_cons, List.drop_zero, List.take_append_of_le_length (Nat.le_refl _), List.take_length]
section
variable (f : List UInt8 → List UInt8 → List UInt8)
/-- The sum of a place and of what stands behind the sum. -/
def sumS (at_ : Nat) (r : List UInt8) : List UInt8 := f key0 (Wi.putL at_ 4 ++ r)
/-- May it be packed? -/
def mayS (at_ : Int) (b : List UInt8) : Bool := decide (0 ≤ at_ ∧ at_ < 4096 ∧ b.length ≤ 103)
def sealedS (at_ : Int) (gen : Nat) (b : List UInt8) : List UInt8 := sumS f at_.toNat (restL gen b) ++ restL gen b
/-- What Pack tells. -/
def packS (at_ : Int) (gen : Nat) (b : List UInt8) : List UInt8 := if mayS at_ b then sealedS f at_ gen b else zeroS
def genS (s : List UInt8) : Nat := Wi.getL ((s.drop 16).take 8)
def sizeS (s : List UInt8) : Nat := (s.getD 24 0).toNat
def bodyS (s : List UInt8) : List UInt8 := (s.drop 25).take (sizeS s)
/-- Is it a sealed sector of its place? -/
def okS (at_ : Int) (s : List UInt8) : Bool := decide (sizeS s ≤ 103) && (mayS at_ (bodyS s) && decide (sealedS f at_ (genS s) (bodyS s) = s))
/-- What Unpack tells. -/
def unpackS (at_ : Int) (s : List UInt8) : Nat × List UInt8 := if okS f at_ s then (genS s, bodyS s) else (0, [])
end
section
variable {f : List UInt8 → List UInt8 → List UInt8} (hf : ∀ k l, (f k l).length = 16)
include hf
theorem sumS_length (a : Nat) (r : List UInt8) : (sumS f a r).length = 16 := hf _ _
theorem sealedS_length {a : Int} {gen : Nat} {b : List UInt8} (h : b.length ≤ 103) : (sealedS f a gen b).length = 128 := by
  rw [sealedS, List.length_append, sumS_length hf, restL_length h]
theorem packS_length {a : Int} {gen : Nat} {b : List UInt8} : (packS f a gen b).length = 128 := by
  unfold packS; split
  · rename_i h; exact sealedS_length hf (of_decide_eq_true h).2.2
  · exact zeroS_length
theorem sealed_drop {a : Int} {gen : Nat} {b : List UInt8} : (sealedS f a gen b).drop 16 = restL gen b := by
  rw [sealedS, List.drop_append, sumS_length hf, List.drop_eq_nil_of_le (by rw [sumS_length hf]; omega), Nat.sub_self, List.nil_append, List.drop_zero]
theorem sealed_gen {a : Int} {gen : Nat} {b : List UInt8} (hg : gen < 18446744073709551616) : genS (sealedS f a gen b) = gen := by
  rw [genS, sealed_drop hf, restL_get, get_put8 hg]
theorem sealed_size {a : Int} {gen : Nat} {b : List UInt8} (h : b.length ≤ 103) : sizeS (sealedS f a gen b) = b.length := by
  have e : (sealedS f a gen b).getD 24 0 = (restL gen b).getD 8 0 := by
    rw [List.getD_eq_getElem?_getD, List.getD_eq_getElem?_getD, ← sealed_drop (f := f) hf (a := a), List.getElem?_drop]
  rw [sizeS, e, restL_size, size_byte h]
theorem sealed_body {a : Int} {gen : Nat} {b : List UInt8} (h : b.length ≤ 103) : bodyS (sealedS f a gen b) = b := by
  have e : (sealedS f a gen b).drop 25 = (restL gen b).drop 9 := by
    rw [← sealed_drop (f := f) hf (a := a), List.drop_drop]
  rw [bodyS, sealed_size hf h, e, restL_body]
/-- There and back. -/
theorem ok_sealed {a : Int} {gen : Nat} {b : List UInt8} (ha : mayS a b = true) (hg : gen < 18446744073709551616) : okS f a (sealedS f a gen b) = true := by
  have h := (of_decide_eq_true ha).2.2
  rw [okS, sealed_size hf h, sealed_body hf h, sealed_gen hf hg, ha, decide_eq_true h, decide_eq_true rfl]; rfl
theorem unpack_sealed {a : Int} {gen : Nat} {b : List UInt8} (ha : mayS a b = true) (hg : gen < 18446744073709551616) : unpackS f a (sealedS f a gen b) = (gen, b) := by
  have h := (of_decide_eq_true ha).2.2
  rw [unpackS, ok_sealed hf ha hg, if_pos rfl, sealed_body hf h, sealed_gen hf hg]
/-- Of sealed sectors that are alike the generation and the body are alike. -/
theorem sealed_inj {a a' : Int} {gen gen' : Nat} {b b' : List UInt8} (h : b.length ≤ 103) (h' : b'.length ≤ 103) (hg : gen < 18446744073709551616) (hg' : gen' < 18446744073709551616) (e : sealedS f a gen b = sealedS f a' gen' b') : gen = gen' ∧ b = b' := by
  constructor
  · rw [← sealed_gen hf hg (a := a) (b := b), e, sealed_gen hf hg']
  · rw [← sealed_body hf h (a := a) (gen := gen), e, sealed_body hf h']
end
section
variable {f : List UInt8 → List UInt8 → List UInt8}
theorem ok_may {a : Int} {s : List UInt8} (h : okS f a s = true) : mayS a (bodyS s) = true ∧ sealedS f a (genS s) (bodyS s) = s := by
  rw [okS, Bool.and_eq_true, Bool.and_eq_true] at h
  exact ⟨h.2.1, of_decide_eq_true h.2.2⟩
/-- One spelling. -/
theorem pack_ok {a : Int} {s : List UInt8} (h : okS f a s = true) : packS f a (genS s) (bodyS s) = s := by
  obtain ⟨h1, h2⟩ := ok_may h
  rw [packS, h1, if_pos rfl, h2]
theorem genS_lt (s : List UInt8) : genS s < 18446744073709551616 := by
  refine Nat.lt_of_lt_of_le (Wi.getL_lt _) (Nat.le_trans (Nat.pow_le_pow_right (by omega) (show _ ≤ 8 by rw [List.length_take]; omega)) (by decide))
theorem bodyS_length {s : List UInt8} (h : s.length = 128) (hs : sizeS s ≤ 103) : (bodyS s).length = sizeS s := by
  rw [bodyS, List.length_take, List.length_drop, h]; omega
end
/-- The sector as Pack lays it, part by part. -/
def lay1 (gen : Nat) : List UInt8 := splice zeroS 16 (Wi.putL gen 8)
def lay2 (gen : Nat) (b : List UInt8) : List UInt8 := (lay1 gen).set 24 (UInt8.ofNat b.length)
def lay3 (gen : Nat) (b : List UInt8) : List UInt8 := splice (lay2 gen b) 25 b
theorem lay1_eq (gen : Nat) : lay1 gen = List.replicate 16 0 ++ (Wi.putL gen 8 ++ List.replicate 104 0) := by
  rw [lay1, splice, zeroS, Wi.putL_length, List.take_replicate, List.drop_replicate]; rfl
theorem lay2_eq (gen : Nat) (b : List UInt8) : lay2 gen b = (List.replicate 16 0 ++ Wi.putL gen 8 ++ [UInt8.ofNat b.length]) ++ List.replicate 103 0 := by
  rw [lay2, lay1_eq, List.set_append_right _ _ (by simp), List.length_replicate, List.set_append_right _ _ (by rw [Wi.putL_length]; omega), Wi.putL_length, show List.replicate 104 (0 : UInt8) = 0 :: List.replicate 103 0 from rfl, show 24 - 16 - 8 = 0 from rfl, List.set_cons_zero]
  simp
theorem lay3_eq (gen : Nat) (b : List UInt8) : lay3 gen b = List.replicate 16 0 ++ restL gen b := by
  have hl : (List.replicate 16 (0 : UInt8) ++ Wi.putL gen 8 ++ [UInt8.ofNat b.length]).length = 25 := by simp [Wi.putL_length]
  rw [lay3, lay2_eq, splice, List.take_append_of_le_length (by omega), List.take_of_length_le (by omega), List.drop_append, hl, List.drop_eq_nil_of_le (by omega), List.nil_append, List.drop_replicate, restL, show 25 + b.length - 25 = b.length by omega]
  simp
theorem lay1_length (gen : Nat) : (lay1 gen).length = 128 := by rw [lay1_eq]; simp [Wi.putL_length]
theorem lay2_length (gen : Nat) (b : List UInt8) : (lay2 gen b).length = 128 := by rw [lay2, List.length_set, lay1_length]
theorem lay3_length {gen : Nat} {b : List UInt8} (h : b.length ≤ 103) : (lay3 gen b).length = 128 := by rw [lay3_eq, List.length_append, restL_length h]; simp
theorem lay3_drop (gen : Nat) (b : List UInt8) : (lay3 gen b).drop 16 = restL gen b := by
  rw [lay3_eq, List.drop_append, List.drop_eq_nil_of_le (by simp)]; simp
theorem lay4_eq {f : List UInt8 → List UInt8 → List UInt8} (hf : ∀ k l, (f k l).length = 16) (a : Int) (gen : Nat) (b : List UInt8) : splice (lay3 gen b) 0 (sumS f a.toNat (restL gen b)) = sealedS f a gen b := by
  rw [splice, List.take_zero, List.nil_append, sumS_length hf, sealedS, lay3_drop]
end Go.Proofs.Ythdmdlnndbjcoaa.Sx
/-
  Lists as far as they are laid; numbers of 64 bits without a sign, as the little cipher turns them. No program.
-/
namespace Go.Proofs.Ythdmdlnndbjcoaa.Ci
open Go.RowKit
/-- A list as far as its first n are laid. -/
def layTo {α : Type} (z : α) (f : Nat → α) (N : Nat) : Nat → List α
  | 0 => List.replicate N z
  | n + 1 => (layTo z f N n).set n (f n)
theorem layTo_length {α : Type} (z : α) (f : Nat → α) (N : Nat) : ∀ n, (layTo z f N n).length = N
  | 0 => by simp [layTo]
  | n + 1 => by rw [layTo, List.length_set, layTo_length z f N n]
theorem layTo_get {α : Type} (z : α) (f : Nat → α) (N : Nat) : ∀ n j, j < n → n ≤ N → (layTo z f N n)[j]? = some (f j)
  | 0, j, h, _ => by omega
  | n + 1, j, h, h' => by
    rw [layTo]
    by_cases e : j = n
    · subst e
      rw [List.getElem?_set_self (by rw [layTo_length]; omega)]
    · rw [List.getElem?_set_ne (fun e' => e e'.symm)]
      exact layTo_get z f N n j (by omega) (by omega)
theorem layTo_all {α : Type} (z : α) (f : Nat → α) (N : Nat) : layTo z f N N = (List.range N).map f := by
  apply List.ext_getElem?
  intro j
  by_cases h : j < N
  · rw [layTo_get z f N N j h (Nat.le_refl _), List.getElem?_map, List.getElem?_range h]; rfl
  · rw [List.getElem?_eq_none (by rw [layTo_length]; omega), List.getElem?_eq_none (by simp; omega)]
/-- A number of 64 bits without a sign. -/
abbrev w64 (z : Int) : Int := IntKind.u64.wrap z
/-- A byte as such a number. -/
def wb (b : UInt8) : Int := w64 (b.toNat : Int)
/-- The little cipher's number behind so many steps. -/
def litX (k : List UInt8) (n : Int) : Nat → Int
  | 0 => w64 (w64 (w64 (wb (k.getD 0 0) + w64 (256 * wb (k.getD 1 0))) + w64 (65536 * wb (k.getD 2 0))) + 7)
  | i + 1 => w64 (w64 (w64 (w64 (litX k n i * 6364136223846793005) + 1442695040888963407) + n) + wb (k.getD i 0))
/-- Its byte. -/
def litB (x : Int) : UInt8 := UInt8.ofNat (x / 2 ^ 56 % 256).toNat
theorem litB_val (x : Int) : x / 2 ^ 56 % 256 = ((litB x).toNat : Int) := by
  rw [litB, UInt8.toNat_ofNat']; omega
/-- The little cipher's pad. -/
def litL (k : List UInt8) (n : Int) : List UInt8 := (List.range 32).map fun i => litB (litX k n (i + 1))
theorem litL_length (k : List UInt8) (n : Int) : (litL k n).length = 32 := by simp [litL]
theorem litL_lay (k : List UInt8) (n : Int) : layTo 0 (fun i => litB (litX k n (i + 1))) 32 32 = litL k n := layTo_all _ _ _
end Go.Proofs.Ythdmdlnndbjcoaa.Ci
/-
  The contract of the little cipher's sum.
-/
namespace Go.Proofs.Ythdmdlnndbjcoaa.Sx
open Go.RowKit Ci
/-- The little sum's number behind so many bytes of the key, of the text, of the sum. -/
def litY (k : List UInt8) (n : Int) : Nat → Int
  | 0 => n
  | j + 1 => w64 (w64 (litY k n j + wb (k.getD j 0)) * 1099511628211)
def litZ (x : Int) (l : List UInt8) : Nat → Int
  | 0 => x
  | j + 1 => w64 (w64 (w64 (litZ x l j + wb (l.getD j 0)) + 1) * 1099511628211)
def litW (x : Int) : Nat → Int
  | 0 => x
  | j + 1 => w64 (w64 (litW x j * 6364136223846793005) + 1442695040888963407)
def litSumL (k l : List UInt8) : List UInt8 := (List.range 16).map fun i => litB (litW (litZ (litY k (w64 (l.length : Int)) 32) l l.length) (i + 1))
theorem litSumL_length (k l : List UInt8) : (litSumL k l).length = 16 := by simp [litSumL]
theorem info_sum : (Try.prog.info? 109).map (·.size) = some 16 := by kernel_rfl
set_option maxRecDepth 100000 in
set_option maxHeartbeats 1600000 in
theorem litsum_any (key : List UInt8) (hk : key.length = 32) (A : Option Addr) (n c : Nat) (l : List UInt8) (w : World) (hl : l.length = n) (hm : n ≤ maxLen) (hr : Rd w.heap.size w A (bv l)) :
    Calls Try.prog 118 #[.agg (bva key), .slice A n c] w (RetB (.agg (bva (litSumL key l))) w) := by
  obtain ⟨z, hz0⟩ : ∃ z : List UInt8, z = List.replicate 16 0 := ⟨_, rfl⟩
  have hz : ∀ W, (zeroValue 109).run Try.prog W = .ok (.agg (bva z)) W := fun _ => by rw [hz0]; kernel_rfl
  have HZ3 := Lib.hid (show z.length = 16 by rw [hz0]; rfl)
  have HZ0 := Lib.hid hz0
  obtain ⟨w2, hw2⟩ : ∃ w2, w2 = (w.alloc (.cells (bva key) 56)).alloc (.cells (bva z) 109) := ⟨_, rfl⟩
  have B1 := Lib.hid (show Blk w2 w.heap.size (bva key) 56 from by rw [hw2]; exact heap_alloc2_old _ _ _)
  have B2 := Lib.hid (show Blk w2 (w.heap.size + 1) (bva z) 109 from by rw [hw2]; exact heap_alloc2_new _ _ _)
  have BB := Lib.hid (show Below w.heap.size w w2 from by rw [hw2]; exact ((Below.refl _ _).alloc (Nat.le_refl _) _).alloc (by simp) _)
  have hs2 : w2.heap.size = w.heap.size + 1 + 1 := by rw [hw2]; simp
  have HS2 := Lib.hid hs2
  obtain ⟨O, hO⟩ : ∃ O, O = litSumL key l := ⟨_, rfl⟩
  have HO := Lib.hid hO
  have HO3 := Lib.hid (show O.length = 16 by rw [hO]; exact litSumL_length _ _)
  have HIO : Hid ((Try.prog.info? 109).map (·.size) = some (bva O).size) := by rw [bva_size, HO3.out]; exact info_sum
  have HK := Lib.hid hk
  have HL := Lib.hid hl
  have HR := Lib.hid (hr.below BB.out)
  have HM := Lib.hid hm
  obtain ⟨N, hN⟩ : ∃ N, N = IntKind.u64.wrap (n : Int) := ⟨_, rfl⟩
  rw [← hO]
  clear hz0 hk hl hr hO hm hs2
  go_enter Try.func118, Try.ntmps118
  go_wp2_with fail
  rw [← hw2, ← hN]
  have HN := Lib.hid hN
  clear hw2 hN
  go_loopw [5, 6] (fun x i wr => ∃ k : Nat, k ≤ 32 ∧ i = .int .i64 k ∧ x = .int .u64 (litY key N k) ∧ wr = w2) (fun _ i _ => 32 - (intOf i).toNat)
  case atStart => exact ⟨0, by omega, rfl, rfl, rfl⟩
  case round =>
    obtain ⟨k, hk2, rfl, rfl, rfl⟩ := hrel
    by_cases hlt : k < 32
    · have k0 : (0 : Int) ≤ (k : Int) := by omega
      have k1 : (k : Int) < 32 := by omega
      obtain ⟨x, hx⟩ : ∃ x, x = key.getD k 0 := ⟨_, rfl⟩
      have C0 := B1.out.cellb (k := k) (by rw [HK.out]; omega)
      rw [← hx] at C0
      obtain ⟨X, hX⟩ : ∃ X, X = litY key N k := ⟨_, rfl⟩
      rw [← hX]
      have HX := Lib.hid (show litY key N (k + 1) = w64 (w64 (X + wb x) * 1099511628211) by rw [litY, ← hX, ← hx])
      clear hx hX
      go_wp2
      go_roundw
      case rel => exact ⟨k + 1, by omega, by go_num, by rw [HX.out]; rfl, by first | rfl | trivial⟩
      case measure => simp [intOf]; omega
    · obtain rfl : k = 32 := by omega
      obtain ⟨Y, hY⟩ : ∃ Y, Y = litY key N 32 := ⟨_, rfl⟩
      rw [← hY]
      have HY := Lib.hid hY
      clear hY
      go_wp2
      go_loopw [5, 7] (fun x i wq => ∃ j : Nat, j ≤ n ∧ i = .int .i64 j ∧ x = .int .u64 (litZ Y l j) ∧ wq = wr) (fun _ i _ => n - (intOf i).toNat)
      case atStart => exact ⟨0, by omega, rfl, rfl, rfl⟩
      case round =>
        obtain ⟨j, hj, rfl, rfl, rfl⟩ := hrel
        have HJ := Lib.hid hj
        by_cases hlt : j < n
        · obtain ⟨ad, rfl, _, hc⟩ := HR.out.at_ (k := j) (by rw [HL.out]; exact hlt)
          have k0 : (0 : Int) ≤ (j : Int) := by omega
          have k1 : (j : Int) < (n : Int) := by omega
          have wj : IntKind.i64.wrap ((j : Int) + 1) = ((j + 1 : Nat) : Int) := IntWalk.i64_in _ (by have := HM.out; unfold maxLen at this; omega)
          obtain ⟨x, hx⟩ : ∃ x, x = l.getD j 0 := ⟨_, rfl⟩
          have hx' : l[j]'(by rw [HL.out]; exact hlt) = x := by rw [hx, List.getD_eq_getElem?_getD, List.getElem?_eq_getElem (by rw [HL.out]; exact hlt)]; rfl
          rw [hx'] at hc
          obtain ⟨X, hX⟩ : ∃ X, X = litZ Y l j := ⟨_, rfl⟩
          rw [← hX]
          have HX := Lib.hid (show litZ Y l (j + 1) = w64 (w64 (w64 (X + wb x) + 1) * 1099511628211) by rw [litZ, ← hX, ← hx])
          clear hx hX hx' hj
          go_wp2
          go_roundw
          case rel => exact ⟨j + 1, hlt, by go_num, by rw [HX.out]; rfl, by first | rfl | trivial⟩
          case measure => simp [intOf]; omega
        · obtain rfl : j = n := by omega
          obtain ⟨X, hX⟩ : ∃ X, X = litZ Y l j := ⟨_, rfl⟩
          rw [← hX]
          have HE := Lib.hid (show O = (List.range 16).map fun i => litB (litW X (i + 1)) by rw [HO.out, litSumL, HL.out, hX, HY.out, HN.out])
          clear hX hj
          obtain ⟨w3, hw3⟩ : ∃ w3, w3 = wr.alloc (.cells (bva z) 109) := ⟨_, rfl⟩
          have C2 := Lib.hid (show Blk w3 (w.heap.size + 1) (bva z) 109 from by rw [hw3]; exact B2.out.below ((Below.refl _ _).alloc (Nat.le_refl _) _))
          have C3 := Lib.hid (show Blk w3 wr.heap.size (bva z) 109 from by rw [hw3]; exact heap_alloc_new _ _)
          have CB := Lib.hid (show Below w.heap.size w w3 from by rw [hw3]; exact BB.out.alloc BB.out.size _)
          obtain ⟨g, hg⟩ : ∃ g, g = wr.heap.size := ⟨_, rfl⟩
          have HG := Lib.hid (show g = w.heap.size + 1 + 1 by rw [hg]; exact HS2.out)
          rw [← hg] at C3
          go_wp2
          rw [← hw3, ← hg]
          clear hw3 hg
          go_loopw [5, 9] (fun x i wr => ∃ k : Nat, k ≤ 16 ∧ i = .int .i64 k ∧ x = .int .u64 (litW X k) ∧ Blk wr (w.heap.size + 1) (bva z) 109 ∧ Blk wr g (bva (layTo 0 (fun i => litB (litW X (i + 1))) 16 k)) 109 ∧ Below w.heap.size w wr) (fun _ i _ => 16 - (intOf i).toNat)
          case atStart => exact ⟨0, by omega, rfl, rfl, C2.out, by rw [layTo, ← HZ0.out]; exact C3.out, CB.out⟩
          case round =>
            clear C2 C3 CB B1 B2 BB HR hz
            obtain ⟨k, hk2, rfl, rfl, D2, D3, DB⟩ := hrel
            by_cases hlt : k < 16
            · have k0 : (0 : Int) ≤ (k : Int) := by omega
              have k1 : (k : Int) < 16 := by omega
              obtain ⟨y, hy⟩ : ∃ y, y = (layTo 0 (fun i => litB (litW X (i + 1))) 16 k).getD k 0 := ⟨_, rfl⟩
              have D0 := D3.cellb (k := k) (by rw [layTo_length]; omega)
              rw [← hy] at D0
              have D1 := D3.free k
              obtain ⟨V, hV⟩ : ∃ V, V = litW X k := ⟨_, rfl⟩
              rw [← hV]
              have HV := Lib.hid (show litW X (k + 1) = w64 (w64 (V * 6364136223846793005) + 1442695040888963407) by rw [litW, ← hV])
              have G2 := Lib.hid D2
              have G3 := Lib.hid D3
              clear hy hV D2 D3
              go_wp2
              go_roundw
              case rel =>
                exact ⟨k + 1, by omega, by go_num, by rw [HV.out], by exact G2.out.other (by have := HG.out; omega) _ _, by rw [layTo]; exact G3.out.setb k _ (int_eq (by rw [← litB_val, HV.out]; rfl)), by exact DB.setCell (by have := HG.out; simp only []; omega) _⟩
              case measure => simp [intOf]; omega
            · obtain rfl : k = 16 := by omega
              rw [layTo_all, ← HE.out] at D3
              have G2 := Lib.hid D2
              have G3 := Lib.hid D3
              clear D2 D3
              go_wp2_with (first
                | (refine wpList_load_row rfl 109 (.tmp 8) rfl g rfl 109 (bva O) (0, 0) _ G3.out Try.underlying109 rfl HIO.out ?_)
                | (refine wpList_store_row rfl 109 (.tmp 4) (.tmp 51) rfl (w.heap.size + 1) (bva O) rfl rfl 109 (bva z) G2.out HIO.out (by rw [bva_size, bva_size, HO3.out, HZ3.out]) (bva_one _) ?_))
              exact bodyPost_ret (v := .agg (bva O)) (results_cell_row Try.results118 _ _ (w.heap.size + 1) 109 (bva O) (0, 0) _ rfl (setRow_heap _ _ _ _ _ _ G2.out) Try.underlying109 rfl HIO.out) rfl ⟨rfl, below_setRow DB (by omega) _⟩
end Go.Proofs.Ythdmdlnndbjcoaa.Sx
/-
  A cipher that sums, as it is handed in; the little one is one.
-/
namespace Go.Proofs.Ythdmdlnndbjcoaa.Sx
open Go.RowKit Ci
structure SCiph where
  T : TypeId
  x : Value
  F : Nat
  f : List UInt8 → List UInt8 → List UInt8
  len : ∀ k l, (f k l).length = 16
  hM : ∀ fuel W, (method (fuel + 1) T x "Sum").run Try.prog W = .ok (F, x) W
  hN : ∀ n, 0 < n → ∀ W, (nilAhead n T x "Sum").run Try.prog W = .ok (some false) W
  hC : ∀ args W, (callFunc F args).run Try.prog W = .ok (.enter F args) W
  hS : ∀ k, k.length = 32 → ∀ A n c l w, l.length = n → n ≤ 1000 → Rd w.heap.size w A (bv l) → Calls Try.prog F #[x, .agg (bva k), .slice A n c] w (RetB (.agg (bva (f k l))) w)
/-- As it is handed in. -/
def SCiph.v (ci : SCiph) : Value := .iface ci.T ci.x
theorem info_key : (Try.prog.info? 56).map (·.size) = some 32 := by kernel_rfl
set_option maxRecDepth 100000 in
set_option maxHeartbeats 1600000 in
theorem litsm_any (X : Array Value) (k : List UInt8) (hk : k.length = 32) (A : Option Addr) (n c : Nat) (l : List UInt8) (w : World) (hl : l.length = n) (hm : n ≤ 1000) (hr : Rd w.heap.size w A (bv l)) :
    Calls Try.prog 117 #[.agg X, .agg (bva k), .slice A n c] w (RetB (.agg (bva (litSumL k l))) w) := by
  obtain ⟨z, hz0⟩ : ∃ z : List UInt8, z = List.replicate 16 0 := ⟨_, rfl⟩
  have hz : ∀ W, (zeroValue 109).run Try.prog W = .ok (.agg (bva z)) W := fun _ => by rw [hz0]; kernel_rfl
  have HZ3 := Lib.hid (show z.length = 16 by rw [hz0]; rfl)
  obtain ⟨w2, hw2⟩ : ∃ w2, w2 = ((w.alloc (.cells X 59)).alloc (.cells (bva k) 56)).alloc (.cells (bva z) 109) := ⟨_, rfl⟩
  have hb3 := three_blocks w (.cells X 59) (.cells (bva k) 56) (.cells (bva z) 109)
  have B1 := Lib.hid (show Blk w2 (w.heap.size + 1) (bva k) 56 from by rw [hw2]; exact hb3.2.1)
  have B2 := Lib.hid (show Blk w2 (w.heap.size + 1 + 1) (bva z) 109 from by rw [hw2]; exact hb3.2.2.1)
  have BB := Lib.hid (show Below w.heap.size w w2 from by rw [hw2]; exact hb3.2.2.2)
  obtain ⟨O, hO⟩ : ∃ O, O = litSumL k l := ⟨_, rfl⟩
  have HO3 := Lib.hid (show O.length = 16 by rw [hO]; exact litSumL_length _ _)
  have HIO : Hid ((Try.prog.info? 109).map (·.size) = some (bva O).size) := by rw [bva_size, HO3.out]; exact info_sum
  have HIK : Hid ((Try.prog.info? 56).map (·.size) = some (bva k).size) := by rw [bva_size, hk]; exact info_key
  have HCS := Lib.hid (litsum_any k hk A n c l w2 hl (by unfold maxLen; omega) ((hr.below BB.out).more BB.out.size))
  rw [← hO] at HCS
  rw [← hO]
  clear hz0 hk hl hr hO hm hb3
  go_enter Try.func117, Try.ntmps117
  go_wp2_with (refine wpList_load_row rfl 56 (.tmp 4) rfl (w.heap.size + 1) rfl 56 (bva k) (0, 0) _ ?hg Try.underlying56 rfl HIK.out ?_; case hg => (rw [← hw2]; exact B1.out))
  rw [← hw2]
  clear hw2
  refine HCS.out.mono ?_
  rintro e w3 ⟨rfl, bw⟩
  have C2 := Lib.hid (B2.out.below bw)
  have CB := Lib.hid (BB.out.trans (bw.mono BB.out.size))
  clear bw B1 B2 BB
  go_wp2_with (refine wpList_store_row rfl 109 (.tmp 6) (.tmp 9) rfl (w.heap.size + 1 + 1) (bva O) rfl rfl 109 (bva z) C2.out HIO.out (by rw [bva_size, bva_size, HO3.out, HZ3.out]) (bva_one _) ?_)
  exact bodyPost_ret (v := .agg (bva O)) (results_cell_row Try.results117 _ _ (w.heap.size + 1 + 1) 109 (bva O) (0, 0) _ rfl (setRow_heap _ _ _ _ _ _ C2.out) Try.underlying109 rfl HIO.out) rfl ⟨rfl, below_setRow CB.out (by omega) _⟩
theorem litsm_method (x : Array Value) (fuel : Nat) (W : World) : (method (fuel + 1) 59 (.agg x) "Sum").run Try.prog W = .ok (117, .agg x) W := by kernel_rfl
theorem litsm_ahead (x : Array Value) (n : Nat) (h : 0 < n) (W : World) : (nilAhead n 59 (.agg x) "Sum").run Try.prog W = .ok (some false) W := by
  cases n with
  | zero => omega
  | succ n => kernel_rfl
theorem litsm_calls (args : Array Value) (W : World) : (callFunc 117 args).run Try.prog W = .ok (.enter 117 args) W := by kernel_rfl
/-- The cells of a Lit that nobody has filled. -/
def zeroLit : Array Value := bva (List.replicate 32 0) ++ #[.int .u64 0] ++ bva (List.replicate 32 0)
/-- The little cipher. -/
def litS : SCiph := ⟨59, .agg zeroLit, 117, litSumL, litSumL_length, fun fuel W => litsm_method zeroLit fuel W, fun n h W => litsm_ahead zeroLit n h W, fun args W => litsm_calls args W, fun k hk A n c l w hl hn hr => litsm_any zeroLit k hk A n c l w hl hn hr⟩
end Go.Proofs.Ythdmdlnndbjcoaa.Sx
/-
  The contract of sumOf: the sum of a place and of what stands behind the sum.
-/
namespace Go.Proofs.Ythdmdlnndbjcoaa.Sx
open Go.RowKit Kd
attribute [local go_sem ↓] Go.wp_at_zero Go.wp_at_succ
theorem exec_buildS {P : Program} {w : World} {r : Operand → Value} {o : Oper} {v : Value} (t : TypeId) (parts : Array (Nat × Operand)) (ho : o.op = .build t parts) (h : (Instr.build t (parts.map fun (i, x) => (i, r x))).run P w = .ok v w) :
    (execOp r o).run P w = .ok (.value v) w := by
  unfold execOp
  simp only [ho, Sem.run_bind, h, Result.andThen_ok, Sem.run_pure]
theorem blk_lt {w w' : World} {q B : Nat} {cs : Array Value} {A : TypeId} (h : Blk w q cs A) (hb : Below B w w') (hq : q < B) : Blk w' q cs A := (hb.block q hq).trans h
/-- A part of a block of bytes reads as such. -/
theorem rd_part {w : World} {g : Nat} {l : List UInt8} {t : TypeId} (h : Blk w g (bva l) t) (o : Nat) : Rd w.heap.size w (some ⟨g, o, none⟩) (bv (l.drop o)) := fun k u hu => by
  refine ⟨_, rfl, h.lt, ?_⟩
  have e : (⟨g, o, none⟩ : Addr).add k = ⟨g, o + k, none⟩ := by
    unfold Addr.add; split
    · rename_i h; rw [h]; rfl
    · rfl
  rw [e, h.cell, bva, List.getElem?_toArray]
  rw [bv_drop, List.getElem?_drop] at hu
  exact hu
theorem info_sec' : (Try.prog.info? 52).map (·.size) = some 128 := by kernel_rfl
set_option maxRecDepth 100000 in
set_option maxHeartbeats 6400000 in
theorem sumof_any (ci : SCiph) (a : Nat) (ha : a < 4096) (s : List UInt8) (hs : s.length = 128) (w : World) :
    Calls Try.prog 52 #[ci.v, .int .i64 a, .agg (bva s)] w (RetB (.agg (bva (sumS ci.f a (s.drop 16)))) w) := by
  obtain ⟨z, hz0⟩ : ∃ z : List UInt8, z = List.replicate 16 0 := ⟨_, rfl⟩
  have hz : ∀ W, (zeroValue 109).run Try.prog W = .ok (.agg (bva z)) W := fun _ => by rw [hz0]; kernel_rfl
  have HZ3 := Lib.hid (show z.length = 16 by rw [hz0]; rfl)
  have HBK := Lib.hid (show ∀ W, (Instr.build 56 #[]).run Try.prog W = .ok (.agg (bva key0)) W from fun _ => by kernel_rfl)
  obtain ⟨w2, hw2⟩ : ∃ w2, w2 = (w.alloc (.cells (bva s) 52)).alloc (.cells (bva z) 109) := ⟨_, rfl⟩
  have B1 := Lib.hid (show Blk w2 w.heap.size (bva s) 52 from by rw [hw2]; exact heap_alloc2_old _ _ _)
  have B2 := Lib.hid (show Blk w2 (w.heap.size + 1) (bva z) 109 from by rw [hw2]; exact heap_alloc2_new _ _ _)
  have BB := Lib.hid (show Below w.heap.size w w2 from by rw [hw2]; exact ((Below.refl _ _).alloc (Nat.le_refl _) _).alloc (by simp) _)
  have HS2 := Lib.hid (show w2.heap.size = w.heap.size + 1 + 1 by rw [hw2]; simp)
  obtain ⟨O, hO⟩ : ∃ O, O = sumS ci.f a (s.drop 16) := ⟨_, rfl⟩
  have HO := Lib.hid hO
  have HO3 := Lib.hid (show O.length = 16 by rw [hO]; exact ci.len _ _)
  have HIO : Hid ((Try.prog.info? 109).map (·.size) = some (bva O).size) := by rw [bva_size, HO3.out]; exact info_sum
  have HS := Lib.hid hs
  have HA := Lib.hid ha
  obtain ⟨r, hr⟩ : ∃ r, r = s.drop 16 := ⟨_, rfl⟩
  have HR3 := Lib.hid (show r.length = 112 by rw [hr, List.length_drop, hs])
  have HRR := Lib.hid hr
  have wa : IntKind.u64.wrap (a : Int) = (a : Int) := IntWalk.u64_in _ (by omega)
  have hM := ci.hM
  have hN := ci.hN
  have hC := ci.hC
  obtain ⟨T, hT⟩ : ∃ T, T = ci.T := ⟨_, rfl⟩
  obtain ⟨x, hx⟩ : ∃ x, x = ci.x := ⟨_, rfl⟩
  obtain ⟨FF, hF⟩ : ∃ FF, FF = ci.F := ⟨_, rfl⟩
  have hcs := ci.hS
  have HV : ci.v = .iface T x := by rw [hT, hx]; rfl
  rw [← hx, ← hF] at hcs
  rw [← hT, ← hx, ← hF] at hM
  rw [← hT, ← hx] at hN
  have HN := Lib.hid hN
  rw [← hF] at hC
  have HCS := Lib.hid hcs
  rw [← hO, HV]
  clear hz0 hO hs ha hr hT hx hF hcs HV hN
  go_enter Try.func52, Try.ntmps52
  go_wp2_with fail
  rw [← hw2]
  clear hw2
  refine wp_region_held_drew (S := (fun w' => Below w.heap.size w w' ∧ Blk w' w.heap.size (bva s) 52 ∧ ∃ l : List UInt8, l.length = 16 ∧ Blk w' (w.heap.size + 1) (bva l) 109)) (by kernel_rfl) ⟨BB.out.drew, (show Blk _ _ _ _ from B1.out), z, HZ3.out, (show Blk _ _ _ _ from B2.out)⟩ (fun hh => ?_)
  have HH := Lib.hid hh
  clear hh
  refine wpAnyH_take (i := 0) (v := ?vS0) rfl (by kernel_rfl) (by kernel_rfl) (by kernel_rfl) (fun _ _ _ h => h) (Or.inl ⟨by rfl, fun w' _ => ?yS0⟩) HH.out ?_
  case yS0 => (go_simp; try with_reducible rfl)
  refine wpAnyH_take (i := 1) (v := .agg (bva key0)) rfl (by kernel_rfl) (by kernel_rfl) (by kernel_rfl) (fun _ _ _ h => h) (Or.inl ⟨by rfl, fun w' _ => ?yb1⟩) HH.out ?_
  case yb1 => exact exec_buildS 56 #[] rfl (by simp only [List.map_toArray, List.map_nil]; exact HBK.out _)
  try simp only [List.getElem_toArray, List.getElem_cons_succ, List.getElem_cons_zero, Act.put, List.setIfInBounds_toArray, List.set_cons_zero, List.set_cons_succ]
  refine wpAnyH_take (i := 2) (v := ?vS2) rfl (by kernel_rfl) (by kernel_rfl) (by kernel_rfl) (fun _ _ _ h => h) (Or.inl ⟨by rfl, fun w' _ => ?yS2⟩) HH.out ?_
  case yS2 => (go_simp; try with_reducible rfl)
  refine wpAnyH_take (i := 3) (v := ?vS3) rfl (by kernel_rfl) (by kernel_rfl) (by kernel_rfl) (fun _ _ _ h => h) (Or.inl ⟨by rfl, fun w' _ => ?yS3⟩) HH.out ?_
  case yS3 => (go_simp; try with_reducible rfl)
  refine wpAnyH_take (i := 5) (v := ?vS5) rfl (by kernel_rfl) (by kernel_rfl) (by kernel_rfl) (fun _ _ _ h => h) (Or.inl ⟨by rfl, fun w' _ => ?yS5⟩) HH.out ?_
  case yS5 => (go_simp; try with_reducible rfl)
  try simp only [List.getElem_toArray, List.getElem_cons_succ, List.getElem_cons_zero, Act.put, List.setIfInBounds_toArray, List.set_cons_zero, List.set_cons_succ]
  refine wpAnyH_take (i := 7) (v := ?vS7) rfl (by kernel_rfl) (by kernel_rfl) (by kernel_rfl) (fun _ _ _ h => h) (Or.inl ⟨by rfl, fun w' _ => ?yS7⟩) HH.out ?_
  case yS7 => (go_simp; try with_reducible rfl)
  refine wpAnyH_take (i := 8) (v := ?vS8) rfl (by kernel_rfl) (by kernel_rfl) (by kernel_rfl) (fun _ _ _ h => h) (Or.inl ⟨by rfl, fun w' _ => ?yS8⟩) HH.out ?_
  case yS8 => (go_simp; rw [HN.out _ (by decide)]; rfl)
  refine wpAnyH_take (i := 9) (v := ?vS9) rfl (by kernel_rfl) (by kernel_rfl) (by kernel_rfl) (fun _ _ _ h => h) (Or.inl ⟨by rfl, fun w' _ => ?yS9⟩) HH.out ?_
  case yS9 => (go_simp; try with_reducible rfl)
  try simp only [List.getElem_toArray, List.getElem_cons_succ, List.getElem_cons_zero, Act.put, List.setIfInBounds_toArray, List.set_cons_zero, List.set_cons_succ]
  refine wpAnyH_ready (rs := [4]) (by kernel_rfl) (by simp) (AllReadyH.cons rfl (fun K hK => ?_) AllReadyH.nil)
  go_simp
  refine (Wi.wput_in (a : Int) 4 _ (by omega) (by have := HA.out; omega) (by omega) (by omega)).mono ?_
  rintro e w3 ⟨A3, n3, c3, rfl, ho3, hb3⟩
  obtain rfl : 4 = n3 := by have := own_blen ho3; rw [Wi.putL_length] at this; exact this
  have O3 := Lib.hid ho3
  have X1 := Lib.hid (Blk.below (w := w2.drew) B1.out hb3)
  have X2 := Lib.hid (Blk.below (w := w2.drew) B2.out hb3)
  have XB := Lib.hid (BB.out.drew.trans (hb3.mono BB.out.size))
  have HZ4 := Lib.hid (show w.heap.size + 1 + 1 ≤ w3.heap.size from by have := hb3.size; have := HS2.out; simp at *; omega)
  clear ho3 hb3
  go_simp
  refine hK.out _ _ ⟨XB.out, X1.out, z, HZ3.out, X2.out⟩ (fun hh => ?_)
  have HH' := Lib.hid hh
  clear hh hK K HH B1 B2 BB
  have HH := Lib.hid HH'.out
  clear HH'
  refine wpAnyH_ready (rs := [6]) (by kernel_rfl) (by simp) (AllReadyH.cons rfl (fun K hK => ?_) AllReadyH.nil)
  refine step_app _ (by rfl) (.tmp 11) (.tmp 12) _ rfl Wi.bytesElt (base := w2.heap.size) (v := .slice A3 4 c3) rfl (own_more O3.out (by simp)) (m := 112) rfl ((rd_part X1.out 16)) (by rw [bv_length, ← HRR.out, HR3.out]) (bv_one _) (by omega) (by have := HZ4.out; have := HS2.out; omega) ?_
  intro A4 c4 w4 ho4 hg4 _
  rw [← HRR.out, ← bv_append] at ho4
  have O4 := Lib.hid ho4
  have hk : Below w2.heap.size w3 w4 := app_below (Below.refl _ _) (own_more O3.out (by simp)) hg4 (Nat.le_refl _) (by have := HZ4.out; have := HS2.out; omega)
  have Y1 := Lib.hid (blk_lt X1.out hk (by have := HS2.out; omega))
  have Y2 := Lib.hid (blk_lt X2.out hk (by have := HS2.out; omega))
  have YB := Lib.hid (XB.out.trans (hk.mono (by have := HS2.out; omega)))
  clear ho4 hg4 hk
  refine hK.out _ _ ⟨YB.out, Y1.out, z, HZ3.out, Y2.out⟩ (fun hh => ?_)
  have HH' := Lib.hid hh
  clear hh hK K HH X1 X2 XB
  have HH := Lib.hid HH'.out
  clear HH'
  try simp only [List.getElem_toArray, List.getElem_cons_succ, List.getElem_cons_zero, Act.put, List.setIfInBounds_toArray, List.set_cons_zero, List.set_cons_succ]
  refine wpAnyH_ready (rs := [10]) (by kernel_rfl) (by simp) (AllReadyH.cons rfl (fun K hK => ?_) AllReadyH.nil)
  go_simp
  refine (HCS.out key0 key0_length A4 (4 + 112) c4 _ w4 (by have := own_blen O4.out; exact this) (by omega) (Rd.own O4.out)).mono ?_
  rintro e w5 ⟨rfl, bw⟩
  rw [show ci.f key0 (Wi.putL ((a : Int).toNat) (4 : Int).toNat ++ r) = O by rw [HO.out, sumS, HRR.out]; rfl]
  have Z1 := Lib.hid (Y1.out.below bw)
  have Z2 := Lib.hid (Y2.out.below bw)
  have ZB := Lib.hid (YB.out.trans (bw.mono YB.out.size))
  clear bw
  go_simp
  refine hK.out _ _ ⟨ZB.out, Z1.out, z, HZ3.out, Z2.out⟩ (fun hh => ?_)
  have HH' := Lib.hid hh
  clear hh hK K HH Y1 Y2 YB
  have HH := Lib.hid HH'.out
  clear HH'
  try simp only [List.getElem_toArray, List.getElem_cons_succ, List.getElem_cons_zero, Act.put, List.setIfInBounds_toArray, List.set_cons_zero, List.set_cons_succ]
  refine wpAnyH_ready (rs := [11]) (by kernel_rfl) (by simp) (AllReadyH.cons rfl (fun K hK => ?_) AllReadyH.nil)
  rw [if_pos (by rfl)]
  refine wp_store_row 109 (.tmp 6) (.tmp 17) rfl (w.heap.size + 1) (bva O) rfl rfl 109 (bva z) Z2.out HIO.out (by rw [bva_size, bva_size, HO3.out, HZ3.out]) (bva_one _) ?_
  have hb6 : Below w.heap.size w (w5.setRow (w.heap.size + 1) (bva O)) := below_setRow ZB.out (by omega) _
  have h6 : Blk (w5.setRow (w.heap.size + 1) (bva O)) (w.heap.size + 1) (bva O) 109 := setRow_heap _ _ _ _ _ _ Z2.out
  have HB6 := Lib.hid hb6
  have H6 := Lib.hid h6
  refine hK.out _ _ ⟨hb6, (by unfold Blk; rw [setRow_other _ _ _ _ (by omega)]; exact Z1.out), O, HO3.out, h6⟩ (fun hh => ?_)
  clear hh hK K HH hb6 h6
  try simp only [List.getElem_toArray, List.getElem_cons_succ, List.getElem_cons_zero, Act.put]
  refine wpAnyH_done (by kernel_rfl) ?_ _
  go_wp2_with fail
  exact bodyPost_ret (v := .agg (bva O)) (results_cell_row Try.results52 _ _ (w.heap.size + 1) 109 (bva O) (0, 0) _ rfl H6.out Try.underlying109 rfl HIO.out) rfl ⟨rfl, HB6.out⟩
end Go.Proofs.Ythdmdlnndbjcoaa.Sx
/-
  An array of numbers is equal to itself, as Go compares.
-/
namespace Go.Proofs.Ythdmdlnndbjcoaa
open Go.RowKit
section
variable {P : Program} (w : World)
theorem run_eqItems_self (d : Nat) {e : TypeId} {k : IntKind} (he : P.underlying e = some (.int k)) (xs : Array Value) (hx : ∀ i (h : i < xs.size), ∃ z, xs[i] = .int k z) :
    ∀ is : List Nat, (∀ i ∈ is, i < xs.size) → (Op.eqItems (d + 1) e 1 xs xs is).run P w = .ok true w
  | [], _ => by simp [Op.eqItems]
  | i :: is, h => by
    have hi := h i (by simp)
    obtain ⟨z, hz⟩ := hx i hi
    have hp : (part e xs (i * 1)).run P w = .ok (.int k z) w := run_part_plain w (by simp [Program.plainKey, he]) (by rw [Nat.mul_one, Array.getElem?_eq_getElem hi, hz])
    have hq : (Op.equalIn (d + 1) e (.int k z) (.int k z)).run P w = .ok true w := by rw [run_equalIn_int w d e k k z z he]; simp
    simp only [Op.eqItems, Sem.run_bind, hp, hq, Result.andThen_ok]
    simpa using run_eqItems_self d he xs hx is (fun j hj => h j (by simp [hj]))
theorem run_equal_self {t e n : Nat} {k : IntKind} {i : TypeInfo} (ht : P.underlying t = some (.array n e)) (he : P.underlying e = some (.int k)) (hi : P.info? e = some i) (hc : P.cellsOf e = 1) (xs : Array Value) (hn : xs.size = n)
    (hx : ∀ i (h : i < xs.size), ∃ z, xs[i] = .int k z) : (Op.equalIn 10000 t (.agg xs) (.agg xs)).run P w = .ok true w := by
  rw [show (10000 : Nat) = 9998 + 1 + 1 from rfl, run_equalIn_array w (9998 + 1) xs xs ht hi, hc, run_eqItems_self w 9998 he xs hx (List.range n) (fun j hj => by have := List.mem_range.1 hj; omega)]
end
end Go.Proofs.Ythdmdlnndbjcoaa
/-
  Whether two arrays of bytes are the same, as Go compares.
-/
namespace Go.Proofs.Ythdmdlnndbjcoaa
open Go.RowKit
section
variable {P : Program} (w : World)
theorem run_eqItems_bytes (d : Nat) {e : TypeId} (he : P.underlying e = some (.int .u8)) (a b : List UInt8) :
    ∀ is : List Nat, (∀ i ∈ is, i < a.length ∧ i < b.length) → (Op.eqItems (d + 1) e 1 (bva a) (bva b) is).run P w = .ok (is.all fun i => a.getD i 0 == b.getD i 0) w
  | [], _ => by simp [Op.eqItems]
  | i :: is, h => by
    obtain ⟨h1, h2⟩ := h i (by simp)
    have ih := run_eqItems_bytes d he a b is (fun j hj => h j (by simp [hj]))
    have hp : (part e (bva a) (i * 1)).run P w = .ok (.int .u8 ((a.getD i 0).toNat : Int)) w := run_part_plain w (by simp [Program.plainKey, he]) (by rw [Nat.mul_one]; exact bva_get h1)
    have hq : (part e (bva b) (i * 1)).run P w = .ok (.int .u8 ((b.getD i 0).toNat : Int)) w := run_part_plain w (by simp [Program.plainKey, he]) (by rw [Nat.mul_one]; exact bva_get h2)
    have hr : (Op.equalIn (d + 1) e (.int .u8 ((a.getD i 0).toNat : Int)) (.int .u8 ((b.getD i 0).toNat : Int))).run P w = .ok (a.getD i 0 == b.getD i 0) w := by
      rw [run_equalIn_int w d e .u8 .u8 _ _ he]
      congr 1
      by_cases hab : a.getD i 0 = b.getD i 0
      · rw [hab]; simp
      · have : ¬ (((a.getD i 0).toNat : Int) = ((b.getD i 0).toNat : Int)) := fun h => hab (UInt8.toNat_inj.1 (by omega))
        rw [beq_eq_false_iff_ne.2 hab]
        exact (by simpa using this)
    simp only [Op.eqItems, Sem.run_bind, hp, hq, hr, Result.andThen_ok]
    rw [List.all_cons]
    cases a.getD i 0 == b.getD i 0
    · simp
    · simpa using ih
theorem all_get (a b : List UInt8) (h : a.length = b.length) : ((List.range a.length).all fun i => a.getD i 0 == b.getD i 0) = decide (a = b) := by
  rw [Bool.eq_iff_iff, List.all_eq_true, decide_eq_true_iff]
  constructor
  · intro hh
    refine List.ext_getElem h fun i h1 h2 => ?_
    have := hh i (List.mem_range.2 h1)
    rw [beq_iff_eq, List.getD_eq_getElem?_getD, List.getD_eq_getElem?_getD, List.getElem?_eq_getElem h1, List.getElem?_eq_getElem h2] at this
    exact this
  · rintro rfl i _
    simp
theorem run_equal_bytes {t e n : Nat} {i : TypeInfo} (ht : P.underlying t = some (.array n e)) (he : P.underlying e = some (.int .u8)) (hi : P.info? e = some i) (hc : P.cellsOf e = 1) (a b : List UInt8) (ha : a.length = n) (hb : b.length = n) :
    (Op.equalIn 10000 t (.agg (bva a)) (.agg (bva b))).run P w = .ok (decide (a = b)) w := by
  rw [show (10000 : Nat) = 9998 + 1 + 1 from rfl, run_equalIn_array w (9998 + 1) (bva a) (bva b) ht hi, hc, run_eqItems_bytes w 9998 he a b (List.range n) (fun j hj => by have := List.mem_range.1 hj; omega), ← ha, all_get a b (by omega)]
end
end Go.Proofs.Ythdmdlnndbjcoaa
/-
  What walks over sectors share: a whole sector's size, equality, results, an operation under a guard that holds.
-/
namespace Go.Proofs.Ythdmdlnndbjcoaa.Kd
open Go.RowKit
attribute [local go_sem ↓] Go.wp_at_zero Go.wp_at_succ
theorem wpList_execg8 {P : Program} {w w' : World} {ops : Array Oper} {rest : List Oper} {o : Oper} {a : Act} {Q : Exit → Act → World → Prop} {v : Value} (hgd : Region.wanted o (yielded ops a.tmps) = true)
    (h : (execOp a.eval o).run P w = .ok (.value v) w') (hk : wpList P ops Q rest (a.put o.dst v) w') : wpList P ops Q (o :: rest) a w := by
  unfold wpList
  rw [if_pos hgd]
  refine .inl ?_
  unfold Oper.wp
  rw [h]
  exact hk
theorem eq_sec (a b : List UInt8) (ha : a.length = 128) (hb : b.length = 128) (w : World) : (Op.equalIn 10000 52 (.agg (bva a)) (.agg (bva b))).run Try.prog w = .ok (decide (a = b)) w := by
  obtain ⟨i, hi⟩ := Option.isSome_iff_exists.1 (show (Try.prog.info? 5).isSome = true by kernel_rfl)
  exact run_equal_bytes w Try.underlying52 Try.underlying5 hi (by kernel_rfl) a b ha hb
theorem info_sec : (Try.prog.info? 52).map (·.size) = some 128 := by kernel_rfl
theorem results_ct8 {P : Program} {fn : Func} {p u : Tmp} {ty : TypeId} (h : fn.results = #[.cell p ty, .tmp u]) (tmps : Array Value) (w : World) (g : Nat) (t : TypeId) (cs : Array Value) (d : TypeDesc)
    (hp : tmps.getD p undef = .pointer (some ⟨g, 0, none⟩)) (hg : Blk w g cs t)
    (hu : P.underlying ty = some d) (hd : (match d with | .struct _ | .array _ _ => true | _ => false) = true) (hi : (P.info? ty).map (·.size) = some cs.size) :
    (results fn tmps).run P w = .ok (.tuple #[.agg cs, tmps.getD u undef]) w := by
  have hp' : tmps[p]?.getD undef = .pointer (some ⟨g, 0, none⟩) := by simpa using hp
  simp [results, h, hp', asAddr, run_loadVar_row w g t ty cs (0, 0) d hg hu hd hi]
end Go.Proofs.Ythdmdlnndbjcoaa.Kd
/-
  The contract of sector.Pack, by any cipher.
-/
namespace Go.Proofs.Ythdmdlnndbjcoaa.Sx
open Go.RowKit Kd
attribute [local go_sem ↓] Go.wp_at_zero Go.wp_at_succ
theorem eq_nil_held (T : TypeId) (x : Value) (W : World) : (binOp .eql 106 (.iface T x) .nilIface).run Try.prog W = .ok (.bool false) W :=
  run_eql_held_nil W 106 T x (by kernel_rfl)
theorem eq_nil_nil (W : World) : (binOp .eql 106 .nilIface .nilIface).run Try.prog W = .ok (.bool true) W :=
  run_eql_nil_nil W 106 (by kernel_rfl)
theorem rd_srcS {B : Nat} {w : World} {A : Option Addr} {xs : List Value} (h : Rd B w A xs) (hl : 0 < xs.length) : ∃ ad, A = some ad ∧ ∀ j v, xs[j]? = some v → w.cell? (ad.add j) = some v := by
  obtain ⟨ad, rfl, _, _⟩ := h 0 _ (List.getElem?_eq_getElem hl)
  refine ⟨ad, rfl, fun j v hv => ?_⟩
  obtain ⟨ad', e, _, hc⟩ := h j v hv
  injection e with e
  subst e
  exact hc
theorem rd_bvS {w : World} {g : Nat} {l : List UInt8} {t : TypeId} (h : Blk w g (bva l) t) : Rd w.heap.size w (some ⟨g, 0, none⟩) (bv l) := rd_part h 0
theorem info5S : (Try.prog.info? 5).map (·.size) = some 1 := by kernel_rfl
set_option maxRecDepth 100000 in
set_option maxHeartbeats 1600000 in
theorem pack_nil (a : Int) (gen : Int) (A : Option Addr) (n c : Nat) (w : World)  :
    Calls Try.prog 23 #[.nilIface, .int .i64 a, .int .u64 gen, .slice A n c] w (RetB (.tuple #[.agg (bva zeroS), .bool false]) w) := by
  obtain ⟨z, hz0⟩ : ∃ z : List UInt8, z = zeroS := ⟨_, rfl⟩
  have hz : ∀ W, (zeroValue 52).run Try.prog W = .ok (.agg (bva z)) W := fun _ => by rw [hz0]; kernel_rfl
  have HBZ := Lib.hid (show ∀ W, (Instr.build 52 #[]).run Try.prog W = .ok (.agg (bva z)) W from fun _ => by rw [hz0]; kernel_rfl)
  have HZ3 := Lib.hid (show z.length = 128 by rw [hz0]; exact zeroS_length)
  have HIZ : Hid ((Try.prog.info? 52).map (·.size) = some (bva z).size) := by rw [bva_size, HZ3.out]; exact info_sec
  rw [← hz0]
  clear hz0
  have hq := eq_nil_nil
  go_enter Try.func23, Try.ntmps23
  go_wp2_with (first
    | (refine wpList_build rfl 52 #[] rfl (v := .agg (bva z)) ?hbld ?_; case hbld => exact HBZ.out _)
    | (refine wpList_store_row rfl 52 (.tmp 8) (.tmp 27) rfl w.heap.size (bva z) rfl rfl 52 (bva z) (heap_alloc_new _ _) HIZ.out (by rfl) (bva_one _) ?_))
  exact bodyPost_ret (v := .tuple #[.agg (bva z), .bool false]) (results_ct8 Try.results23 _ _ w.heap.size 52 (bva z) _ rfl (setRow_heap _ _ _ _ _ _ (heap_alloc_new _ _)) Try.underlying52 rfl HIZ.out) rfl ⟨rfl, below_setRow ((Below.refl _ _).alloc (Nat.le_refl _) _) (Nat.le_refl _) _⟩
set_option maxRecDepth 100000 in
set_option maxHeartbeats 1600000 in
theorem pack_no0 (a : Int) (gen : Int) (A : Option Addr) (n c : Nat) (w : World) (T : TypeId) (x : Value) (h : a < 0) :
    Calls Try.prog 23 #[.iface T x, .int .i64 a, .int .u64 gen, .slice A n c] w (RetB (.tuple #[.agg (bva zeroS), .bool false]) w) := by
  obtain ⟨z, hz0⟩ : ∃ z : List UInt8, z = zeroS := ⟨_, rfl⟩
  have hz : ∀ W, (zeroValue 52).run Try.prog W = .ok (.agg (bva z)) W := fun _ => by rw [hz0]; kernel_rfl
  have HBZ := Lib.hid (show ∀ W, (Instr.build 52 #[]).run Try.prog W = .ok (.agg (bva z)) W from fun _ => by rw [hz0]; kernel_rfl)
  have HZ3 := Lib.hid (show z.length = 128 by rw [hz0]; exact zeroS_length)
  have HIZ : Hid ((Try.prog.info? 52).map (·.size) = some (bva z).size) := by rw [bva_size, HZ3.out]; exact info_sec
  rw [← hz0]
  clear hz0
  have hq := eq_nil_held T x
  go_enter Try.func23, Try.ntmps23
  go_wp2_with (first
    | (refine wpList_build rfl 52 #[] rfl (v := .agg (bva z)) ?hbld ?_; case hbld => exact HBZ.out _)
    | (refine wpList_store_row rfl 52 (.tmp 8) (.tmp 27) rfl w.heap.size (bva z) rfl rfl 52 (bva z) (heap_alloc_new _ _) HIZ.out (by rfl) (bva_one _) ?_))
  exact bodyPost_ret (v := .tuple #[.agg (bva z), .bool false]) (results_ct8 Try.results23 _ _ w.heap.size 52 (bva z) _ rfl (setRow_heap _ _ _ _ _ _ (heap_alloc_new _ _)) Try.underlying52 rfl HIZ.out) rfl ⟨rfl, below_setRow ((Below.refl _ _).alloc (Nat.le_refl _) _) (Nat.le_refl _) _⟩
set_option maxRecDepth 100000 in
set_option maxHeartbeats 1600000 in
theorem pack_no1 (a : Int) (gen : Int) (A : Option Addr) (n c : Nat) (w : World) (T : TypeId) (x : Value) (h0 : 0 ≤ a) (h : 4096 ≤ a) :
    Calls Try.prog 23 #[.iface T x, .int .i64 a, .int .u64 gen, .slice A n c] w (RetB (.tuple #[.agg (bva zeroS), .bool false]) w) := by
  obtain ⟨z, hz0⟩ : ∃ z : List UInt8, z = zeroS := ⟨_, rfl⟩
  have hz : ∀ W, (zeroValue 52).run Try.prog W = .ok (.agg (bva z)) W := fun _ => by rw [hz0]; kernel_rfl
  have HBZ := Lib.hid (show ∀ W, (Instr.build 52 #[]).run Try.prog W = .ok (.agg (bva z)) W from fun _ => by rw [hz0]; kernel_rfl)
  have HZ3 := Lib.hid (show z.length = 128 by rw [hz0]; exact zeroS_length)
  have HIZ : Hid ((Try.prog.info? 52).map (·.size) = some (bva z).size) := by rw [bva_size, HZ3.out]; exact info_sec
  rw [← hz0]
  clear hz0
  have hq := eq_nil_held T x
  go_enter Try.func23, Try.ntmps23
  go_wp2_with (first
    | (refine wpList_build rfl 52 #[] rfl (v := .agg (bva z)) ?hbld ?_; case hbld => exact HBZ.out _)
    | (refine wpList_store_row rfl 52 (.tmp 8) (.tmp 27) rfl w.heap.size (bva z) rfl rfl 52 (bva z) (heap_alloc_new _ _) HIZ.out (by rfl) (bva_one _) ?_))
  exact bodyPost_ret (v := .tuple #[.agg (bva z), .bool false]) (results_ct8 Try.results23 _ _ w.heap.size 52 (bva z) _ rfl (setRow_heap _ _ _ _ _ _ (heap_alloc_new _ _)) Try.underlying52 rfl HIZ.out) rfl ⟨rfl, below_setRow ((Below.refl _ _).alloc (Nat.le_refl _) _) (Nat.le_refl _) _⟩
set_option maxRecDepth 100000 in
set_option maxHeartbeats 1600000 in
theorem pack_no2 (a : Int) (gen : Int) (A : Option Addr) (n c : Nat) (w : World) (T : TypeId) (x : Value) (h0 : 0 ≤ a) (h1 : a < 4096) (h : 103 < n) :
    Calls Try.prog 23 #[.iface T x, .int .i64 a, .int .u64 gen, .slice A n c] w (RetB (.tuple #[.agg (bva zeroS), .bool false]) w) := by
  obtain ⟨z, hz0⟩ : ∃ z : List UInt8, z = zeroS := ⟨_, rfl⟩
  have hz : ∀ W, (zeroValue 52).run Try.prog W = .ok (.agg (bva z)) W := fun _ => by rw [hz0]; kernel_rfl
  have HBZ := Lib.hid (show ∀ W, (Instr.build 52 #[]).run Try.prog W = .ok (.agg (bva z)) W from fun _ => by rw [hz0]; kernel_rfl)
  have HZ3 := Lib.hid (show z.length = 128 by rw [hz0]; exact zeroS_length)
  have HIZ : Hid ((Try.prog.info? 52).map (·.size) = some (bva z).size) := by rw [bva_size, HZ3.out]; exact info_sec
  rw [← hz0]
  clear hz0
  have hq := eq_nil_held T x
  have hd : decide ((103 : Int) < (n : Int)) = true := by simp; omega
  go_enter Try.func23, Try.ntmps23
  go_wp2_with (first
    | (refine wpList_build rfl 52 #[] rfl (v := .agg (bva z)) ?hbld ?_; case hbld => exact HBZ.out _)
    | (refine wpList_store_row rfl 52 (.tmp 8) (.tmp 27) rfl w.heap.size (bva z) rfl rfl 52 (bva z) (heap_alloc_new _ _) HIZ.out (by rfl) (bva_one _) ?_))
  exact bodyPost_ret (v := .tuple #[.agg (bva z), .bool false]) (results_ct8 Try.results23 _ _ w.heap.size 52 (bva z) _ rfl (setRow_heap _ _ _ _ _ _ (heap_alloc_new _ _)) Try.underlying52 rfl HIZ.out) rfl ⟨rfl, below_setRow ((Below.refl _ _).alloc (Nat.le_refl _) _) (Nat.le_refl _) _⟩
set_option maxRecDepth 100000 in
set_option maxHeartbeats 6400000 in
theorem pack_yes (ci : SCiph) (k : Nat) (hk : k < 4096) (gen : Nat) (hg : gen < 18446744073709551616) (A : Option Addr) (n c : Nat) (l : List UInt8) (w : World) (hl : l.length = n) (hn : n ≤ 103) (hr : Rd w.heap.size w A (bv l)) :
    Calls Try.prog 23 #[ci.v, .int .i64 k, .int .u64 gen, .slice A n c] w (RetB (.tuple #[.agg (bva (sealedS ci.f k gen l)), .bool true]) w) := by
  obtain ⟨z, hz0⟩ : ∃ z : List UInt8, z = zeroS := ⟨_, rfl⟩
  have hz : ∀ W, (zeroValue 52).run Try.prog W = .ok (.agg (bva z)) W := fun _ => by rw [hz0]; kernel_rfl
  have HBZ := Lib.hid (show ∀ W, (Instr.build 52 #[]).run Try.prog W = .ok (.agg (bva z)) W from fun _ => by rw [hz0]; kernel_rfl)
  have HZ3 := Lib.hid (show z.length = 128 by rw [hz0]; exact zeroS_length)
  have HIZ : Hid ((Try.prog.info? 52).map (·.size) = some (bva z).size) := by rw [bva_size, HZ3.out]; exact info_sec
  obtain ⟨y, hy0⟩ : ∃ y : List UInt8, y = List.replicate 16 0 := ⟨_, rfl⟩
  have hy : ∀ W, (zeroValue 109).run Try.prog W = .ok (.agg (bva y)) W := fun _ => by rw [hy0]; kernel_rfl
  have HY3 := Lib.hid (show y.length = 16 by rw [hy0]; rfl)
  obtain ⟨w2, hw2⟩ : ∃ w2, w2 = (w.alloc (.cells (bva z) 52)).alloc (.cells (bva z) 52) := ⟨_, rfl⟩
  have B1 := Lib.hid (show Blk w2 w.heap.size (bva z) 52 from by rw [hw2]; exact heap_alloc2_old _ _ _)
  have B2 := Lib.hid (show Blk w2 (w.heap.size + 1) (bva z) 52 from by rw [hw2]; exact heap_alloc2_new _ _ _)
  have BB := Lib.hid (show Below w.heap.size w w2 from by rw [hw2]; exact ((Below.refl _ _).alloc (Nat.le_refl _) _).alloc (by simp) _)
  have HS2 := Lib.hid (show w2.heap.size = w.heap.size + 1 + 1 by rw [hw2]; simp)
  obtain ⟨O, hO⟩ : ∃ O, O = sumS ci.f k (restL gen l) := ⟨_, rfl⟩
  have HO3 := Lib.hid (show O.length = 16 by rw [hO]; exact ci.len _ _)
  have HIO : Hid ((Try.prog.info? 109).map (·.size) = some (bva O).size) := by rw [bva_size, HO3.out]; exact info_sum
  obtain ⟨R, hR⟩ : ∃ R, R = sealedS ci.f k gen l := ⟨_, rfl⟩
  have HR0 := Lib.hid (show splice (lay3 gen l) 0 O = R by rw [hO, hR]; exact lay4_eq ci.len k gen l)
  have HR3 := Lib.hid (show R.length = 128 by rw [hR]; exact sealedS_length ci.len (by omega))
  have HIR : Hid ((Try.prog.info? 52).map (·.size) = some (bva R).size) := by rw [bva_size, HR3.out]; exact info_sec
  obtain ⟨m, hm⟩ : ∃ m, m = lay3 gen l := ⟨_, rfl⟩
  have HM3 := Lib.hid (show m.length = 128 by rw [hm]; exact lay3_length (by omega))
  have HM0 := Lib.hid (show splice (lay2 gen l) 25 l = m by rw [hm]; rfl)
  have HIM : Hid ((Try.prog.info? 52).map (·.size) = some (bva m).size) := by rw [bva_size, HM3.out]; exact info_sec
  have HCS := Lib.hid (show ∀ W, Calls Try.prog 52 #[ci.v, .int .i64 k, .agg (bva m)] W (RetB (.agg (bva O)) W) from fun W => by
    have h := sumof_any ci k hk m HM3.out W
    rw [hm, lay3_drop] at h
    rw [hO, hm]; exact h)
  rw [← hm] at HR0
  have HZ0 := Lib.hid (show splice z 16 (Wi.putL gen 8) = lay1 gen by rw [hz0]; rfl)
  have HL2 := Lib.hid (show (lay1 gen).set 24 (UInt8.ofNat n) = lay2 gen l by rw [lay2, hl])
  have HG := Lib.hid (show U64 gen from hg)
  have HL := Lib.hid hl
  have HR := Lib.hid hr
  have hq := eq_nil_held ci.T ci.x
  obtain ⟨T, hT⟩ : ∃ T, T = ci.T := ⟨_, rfl⟩
  obtain ⟨x, hx⟩ : ∃ x, x = ci.x := ⟨_, rfl⟩
  have HV : ci.v = .iface T x := by rw [hT, hx]; rfl
  rw [← hT, ← hx] at hq
  rw [HV] at HCS
  rw [← hR, HV]
  have k0 : (0 : Int) ≤ (k : Int) := by omega
  have k1 : (k : Int) < 4096 := by omega
  have hd : decide ((103 : Int) < (n : Int)) = false := by simp; omega
  have wn : IntKind.u8.wrap (n : Int) = (n : Int) := IntWalk.u8_in _ (by omega)
  have HN := Lib.hid hn
  clear hz0 hy0 hO hR hm hT hx HV hg hl hr hk hn
  go_enter Try.func23, Try.ntmps23
  go_wp2_with fail
  rw [← hw2]
  clear hw2
  refine wp_region_held_drew (S := (fun w' => Below w.heap.size w w' ∧ Blk w' w.heap.size (bva z) 52 ∧ ∃ l : List UInt8, l.length = 128 ∧ Blk w' (w.heap.size + 1) (bva l) 52)) (by kernel_rfl) ⟨BB.out.drew, (show Blk _ _ _ _ from B1.out), z, HZ3.out, (show Blk _ _ _ _ from B2.out)⟩ (fun hh => ?_)
  have HH := Lib.hid hh
  clear hh
  refine wpAnyH_take (i := 0) (v := ?vP0) rfl (by kernel_rfl) (by kernel_rfl) (by kernel_rfl) (fun _ _ _ h => h) (Or.inl ⟨by rfl, fun w' _ => ?yP0⟩) HH.out ?_
  case yP0 => (go_simp; try with_reducible rfl)
  refine wpAnyH_take (i := 1) (v := ?vP1) rfl (by kernel_rfl) (by kernel_rfl) (by kernel_rfl) (fun _ _ _ h => h) (Or.inl ⟨by rfl, fun w' _ => ?yP1⟩) HH.out ?_
  case yP1 => (go_simp; try with_reducible rfl)
  try simp only [List.getElem_toArray, List.getElem_cons_succ, List.getElem_cons_zero, Act.put, List.setIfInBounds_toArray, List.set_cons_zero, List.set_cons_succ]
  refine wpAnyH_ready (rs := [2]) (by kernel_rfl) (by simp) (AllReadyH.cons rfl (fun K hK => ?_) AllReadyH.nil)
  go_simp
  refine (Wi.wput_in (gen : Int) 8 _ (by omega) HG.out.int (by omega) (by omega)).mono ?_
  rintro e w3 ⟨A3, n3, c3, rfl, ho3, hb3⟩
  rw [show ((gen : Int)).toNat = gen from Int.toNat_natCast gen, show (8 : Int).toNat = 8 from rfl] at ho3
  obtain rfl : 8 = n3 := by have := own_blen ho3; rw [Wi.putL_length] at this; exact this
  have O3 := Lib.hid ho3
  have X1 := Lib.hid (Blk.below (w := w2.drew) B1.out hb3)
  have X2 := Lib.hid (Blk.below (w := w2.drew) B2.out hb3)
  have XB := Lib.hid (BB.out.drew.trans (hb3.mono BB.out.size))
  have XX := Lib.hid (show Below w2.heap.size w2 w3 from (Below.refl _ _).drew.trans hb3)
  clear ho3 hb3
  go_simp
  refine hK.out _ _ ⟨XB.out, X1.out, z, HZ3.out, X2.out⟩ (fun hh => ?_)
  have HH' := Lib.hid hh
  clear hh hK K HH B1 B2 BB
  have HH := Lib.hid HH'.out
  clear HH'
  refine wpAnyH_ready (rs := [3]) (by kernel_rfl) (by simp) (AllReadyH.cons rfl (fun K hK => ?_) AllReadyH.nil)
  refine step_copy_splice (by rfl) (.tmp 28) (.tmp 30) 34 34 rfl 5 Try.underlying34 info5S (some ⟨w.heap.size + 1, 16, none⟩) A3 8 112 8 c3 rfl rfl (w.heap.size + 1) 16 (bv z) 52 X2.out (bv (Wi.putL gen 8)) (by rw [bv_length, Wi.putL_length]; rfl) (fun h => ⟨rfl, rd_srcS (Rd.own O3.out) h⟩) (by rw [bv_length, bv_length, Wi.putL_length, HZ3.out]; omega) (bv_one _) (w.heap.size + 1) w3 (Below.refl _ _) (Nat.le_refl _) ?_
  intro w4 hc4 hb4
  rw [splice_bv, HZ0.out] at hc4
  have Y1 := Lib.hid (blk_lt X1.out hb4 (by omega))
  have Y2 := Lib.hid (show Blk w4 (w.heap.size + 1) (bva (lay1 gen)) 52 from hc4.out)
  have YB := Lib.hid (XB.out.trans (hb4.mono (by omega)))
  clear hc4 hb4
  refine hK.out _ _ ?keep (fun hh => ?_)
  case keep => exact ⟨YB.out, Y1.out, lay1 gen, lay1_length gen, Y2.out⟩
  clear hh hK K HH X1 X2 XB XX O3
  try simp only [List.getElem_toArray, List.getElem_cons_succ, List.getElem_cons_zero, Act.put, List.setIfInBounds_toArray, List.set_cons_zero, List.set_cons_succ]
  refine wpAnyH_done (by kernel_rfl) ?_ _
  have Y24 := Lib.hid (Y2.out.cellb (k := 24) (by rw [lay1_length]; omega))
  have YF := Lib.hid (Y2.out.free 24)
  have y24 := Y24.out
  have yf := YF.out
  go_wp2_with (show wpList _ _ _ ({ dst := some 38, op := .call { callee := .builtin .copy, args := #[.tmp 36, .tmp 37], argTypes := _ }, type := _, pos := _, after := _, guard := _ } :: _) _ _; apply Classical.byContradiction; intro hneg)
  refine hneg ?_
  clear hneg
  obtain ⟨w5, hw5⟩ : ∃ w5, w5 = World.setCell w4 ⟨w.heap.size + 1, 24, none⟩ (.int .u8 (n : Int)) := ⟨_, rfl⟩
  rw [← hw5]
  have Z1 := Lib.hid (show Blk w5 w.heap.size (bva z) 52 from by rw [hw5]; exact Y1.out.other (by omega) _ _)
  have Z2 := Lib.hid (show Blk w5 (w.heap.size + 1) (bva (lay2 gen l)) 52 from by rw [hw5, ← HL2.out]; exact Y2.out.setb 24 _ (int_eq (by rw [UInt8.toNat_ofNat']; have := HN.out; omega)))
  have ZB := Lib.hid (show Below w.heap.size w w5 from by rw [hw5]; exact YB.out.setCell (by simp) _)
  clear y24 yf Y24 YF Y1 Y2 YB hw5
  refine wpList_copy_splice rfl (.tmp 36) (.tmp 37) 34 34 rfl 5 Try.underlying34 info5S (some ⟨w.heap.size + 1, 25, none⟩) A 103 103 n c rfl rfl (w.heap.size + 1) 25 (bv (lay2 gen l)) 52 Z2.out (bv l) (by rw [bv_length, HL.out]; exact (Nat.min_eq_left HN.out).symm) (fun h => ⟨rfl, rd_srcS (HR.out.below ZB.out) h⟩) (by rw [bv_length, bv_length, lay2_length, HL.out]; have := HN.out; omega) (bv_one _) (w.heap.size + 1) w5 (Below.refl _ _) (Nat.le_refl _) ?_
  intro w6 hc6 hb6
  rw [splice_bv, HM0.out] at hc6
  have V1 := Lib.hid (blk_lt Z1.out hb6 (by omega))
  have V2 := Lib.hid (show Blk w6 (w.heap.size + 1) (bva m) 52 from hc6.out)
  have VB := Lib.hid (ZB.out.trans (hb6.mono (by omega)))
  clear hc6 hb6 Z1 Z2 ZB
  go_wp2_with (refine wpList_load_row rfl 52 (.tmp 10) rfl (w.heap.size + 1) rfl 52 (bva m) (0, 0) _ V2.out Try.underlying52 rfl HIM.out ?_)
  refine (HCS.out _).mono ?_
  rintro e w7 ⟨rfl, bw⟩
  have U1 := Lib.hid (V1.out.below bw)
  have U2 := Lib.hid (V2.out.below bw)
  have UB := Lib.hid (VB.out.trans (bw.mono VB.out.size))
  have hlt7 : w.heap.size + 1 < w7.heap.size := U2.out.lt
  clear bw V1 V2 VB
  go_wp2_with (show wpList _ _ _ ({ dst := none, op := .store 109 (.tmp 11) (.tmp 42), type := _, pos := _, after := _, guard := _ } :: _) _ _; apply Classical.byContradiction; intro hneg)
  refine hneg ?_
  clear hneg
  refine wpList_store_row rfl 109 (.tmp 11) (.tmp 42) rfl w7.heap.size (bva O) rfl rfl 109 (bva y) (heap_alloc_new _ _) HIO.out (by rw [bva_size, bva_size, HO3.out, HY3.out]) (bva_one _) ?_
  obtain ⟨w8, hw8⟩ : ∃ w8, w8 = (w7.alloc (.cells (bva y) 109)).setRow w7.heap.size (bva O) := ⟨_, rfl⟩
  rw [← hw8]
  obtain ⟨g8, hg8⟩ : ∃ g8, g8 = w7.heap.size := ⟨_, rfl⟩
  have T1 := Lib.hid (show Blk w8 w.heap.size (bva z) 52 from by rw [hw8]; exact blk_past U1.out)
  have T2 := Lib.hid (show Blk w8 (w.heap.size + 1) (bva m) 52 from by rw [hw8]; exact blk_past U2.out)
  have T3 := Lib.hid (show Blk w8 g8 (bva O) 109 from by rw [hw8, hg8]; exact blk_new _)
  have TB := Lib.hid (show Below w.heap.size w w8 from by rw [hw8]; exact below_new UB.out UB.out.size)
  rw [← hg8]
  rw [← hg8] at hlt7
  have HLT := Lib.hid hlt7
  clear hw8 hg8 U1 U2 UB hlt7
  go_wp2_with fail
  refine wp_region_held_drew (S := (fun w' => Below w.heap.size w w' ∧ Blk w' w.heap.size (bva z) 52 ∧ ∃ l : List UInt8, l.length = 128 ∧ Blk w' (w.heap.size + 1) (bva l) 52)) (by kernel_rfl) ⟨TB.out.drew, (show Blk _ _ _ _ from T1.out), m, HM3.out, (show Blk _ _ _ _ from T2.out)⟩ (fun hh => ?_)
  have HH := Lib.hid hh
  clear hh
  refine wpAnyH_take (i := 0) (v := ?vQ0) rfl (by kernel_rfl) (by kernel_rfl) (by kernel_rfl) (fun _ _ _ h => h) (Or.inl ⟨by rfl, fun w' _ => ?yQ0⟩) HH.out ?_
  case yQ0 => (go_simp; try with_reducible rfl)
  refine wpAnyH_take (i := 1) (v := ?vQ1) rfl (by kernel_rfl) (by kernel_rfl) (by kernel_rfl) (fun _ _ _ h => h) (Or.inl ⟨by rfl, fun w' _ => ?yQ1⟩) HH.out ?_
  case yQ1 => (go_simp; try with_reducible rfl)
  try simp only [List.getElem_toArray, List.getElem_cons_succ, List.getElem_cons_zero, Act.put, List.setIfInBounds_toArray, List.set_cons_zero, List.set_cons_succ]
  refine wpAnyH_ready (rs := [2]) (by kernel_rfl) (by simp) (AllReadyH.cons rfl (fun K hK => ?_) AllReadyH.nil)
  refine step_copy_splice (by rfl) (.tmp 43) (.tmp 44) 34 34 rfl 5 Try.underlying34 info5S (some ⟨w.heap.size + 1, 0, none⟩) (some ⟨g8, 0, none⟩) 16 128 16 16 rfl rfl (w.heap.size + 1) 0 (bv m) 52 (show Blk _ _ _ _ from T2.out) (bv O) (by rw [bv_length, HO3.out]; rfl) (fun h => ⟨rfl, rd_srcS (rd_bvS (show Blk w8.drew _ _ _ from T3.out)) h⟩) (by rw [bv_length, bv_length, HO3.out, HM3.out]; omega) (bv_one _) (w.heap.size + 1) w8.drew (Below.refl _ _) (Nat.le_refl _) ?_
  intro w9 hc9 hb9
  rw [splice_bv, HR0.out] at hc9
  have P1 := Lib.hid (blk_lt (show Blk w8.drew _ _ _ from T1.out) hb9 (by omega))
  have P2 := Lib.hid (show Blk w9 (w.heap.size + 1) (bva R) 52 from hc9.out)
  have PB := Lib.hid (TB.out.drew.trans (hb9.mono (by omega)))
  clear hc9 hb9
  refine hK.out _ _ ?keep2 (fun hh => ?_)
  case keep2 => exact ⟨PB.out, P1.out, R, HR3.out, P2.out⟩
  clear hh hK K HH T1 T2 T3 TB
  try simp only [List.getElem_toArray, List.getElem_cons_succ, List.getElem_cons_zero, Act.put, List.setIfInBounds_toArray, List.set_cons_zero, List.set_cons_succ]
  refine wpAnyH_done (by kernel_rfl) ?_ _
  go_wp2_with (first
    | (refine wpList_load_row rfl 52 (.tmp 10) rfl (w.heap.size + 1) rfl 52 (bva R) (0, 0) _ P2.out Try.underlying52 rfl HIR.out ?_)
    | (refine wpList_store_row rfl 52 (.tmp 8) (.tmp 46) rfl w.heap.size (bva R) rfl rfl 52 (bva z) P1.out HIR.out (by rw [bva_size, bva_size, HR3.out, HZ3.out]) (bva_one _) ?_))
  exact bodyPost_ret (v := .tuple #[.agg (bva R), .bool true]) (results_ct8 Try.results23 _ _ w.heap.size 52 (bva R) _ rfl (setRow_heap _ _ _ _ _ _ P1.out) Try.underlying52 rfl HIR.out) rfl ⟨rfl, below_setRow PB.out (Nat.le_refl _) _⟩
/-- What Pack tells of any place, number and body. -/
theorem pack_any (ci : SCiph) (a : Int) (gen : Nat) (hg : gen < 18446744073709551616) (A : Option Addr) (n c : Nat) (l : List UInt8) (w : World) (hl : l.length = n) (hr : Rd w.heap.size w A (bv l)) :
    Calls Try.prog 23 #[ci.v, .int .i64 a, .int .u64 gen, .slice A n c] w (RetB (.tuple #[.agg (bva (packS ci.f a gen l)), .bool (mayS a l)]) w) := by
  by_cases h : 0 ≤ a ∧ a < 4096 ∧ l.length ≤ 103
  · obtain ⟨k, rfl⟩ := Int.eq_ofNat_of_zero_le h.1
    have hm : mayS (k : Int) l = true := decide_eq_true h
    rw [packS, hm, if_pos rfl]
    exact pack_yes ci k (by omega) gen hg A n c l w hl (by omega) hr
  · have hm : mayS a l = false := decide_eq_false h
    rw [packS, hm, if_neg (by simp)]
    by_cases h0 : 0 ≤ a
    · by_cases h1 : a < 4096
      · exact pack_no2 a gen A n c w ci.T ci.x h0 h1 (by omega)
      · exact pack_no1 a gen A n c w ci.T ci.x h0 (by omega)
    · exact pack_no0 a gen A n c w ci.T ci.x (by omega)
end Go.Proofs.Ythdmdlnndbjcoaa.Sx
/-
  A part of a sector, cut out by two numbers.
-/
namespace Go.Proofs.Ythdmdlnndbjcoaa.Sx
open Go.RowKit
theorem sec_under : Try.prog.underlying 52 = some (.array (Try.prog.arrayLen 52) (Try.prog.elem 52)) := by kernel_rfl
theorem sec_len : Try.prog.arrayLen 52 = 128 := by kernel_rfl
theorem sec_elem (W : World) : (sizeOf (Try.prog.elem 52)).run Try.prog W = .ok 1 W := by kernel_rfl
theorem slice_sec (W : World) (g l h : Nat) (h1 : l ≤ h) (h2 : h ≤ 128) (h3 : l < 128) :
    (Instr.sliceAt 52 (.pointer (some ⟨g, 0, none⟩)) (some (.int .i64 (l : Int))) (some (.int .i64 (h : Int))) none).run Try.prog W = .ok (.slice (some ⟨g, l, none⟩) (h - l) (128 - l)) W := by
  rw [run_sliceAt_array_lh W 52 ⟨g, 0, none⟩ sec_under .i64 .i64 (l : Int) (h : Int) (by omega) (by omega) (by rw [sec_len]; omega), sec_elem]
  show Result.ok _ _ = _
  rw [sec_len, slicedAt, if_neg (by omega), Int.toNat_natCast, Int.toNat_natCast, Nat.mul_one]
  have e : (⟨g, 0, none⟩ : Addr).add l = ⟨g, l, none⟩ := by
    unfold Addr.add; split
    · rename_i h; rw [h]
    · simp
  rw [e]
end Go.Proofs.Ythdmdlnndbjcoaa.Sx
/-
  The contract of sector.Unpack, by any cipher, and by none.
-/
namespace Go.Proofs.Ythdmdlnndbjcoaa.Sx
open Go.RowKit Kd
attribute [local go_sem ↓] Go.wp_at_zero Go.wp_at_succ
/-- It tells a generation, a body in new memory, and whether they are right. -/
def RetU (g : Nat) (l : List UInt8) (ok : Bool) (w : World) (e : Ending) (w' : World) : Prop :=
  ∃ A n c, e = .returned (.tuple #[.int .u64 (g : Int), .slice A n c, .bool ok]) ∧ w'.ownsRow w.heap.size 5 1 (.slice A n c) n (bv l) ∧ Below w.heap.size w w'
theorem RetU.none {w w' : World} (h : Below w.heap.size w w') : RetU 0 [] false w (.returned (.tuple #[.int .u64 0, .slice none 0 0, .bool false])) w' :=
  ⟨_, _, _, rfl, World.ownsRow_nil _ _ _ _, h⟩
theorem ok_long {f : List UInt8 → List UInt8 → List UInt8} {a : Int} {s : List UInt8} (h : 103 < sizeS s) : okS f a s = false := by
  rw [okS, decide_eq_false (by omega)]; rfl
theorem ok_not {f : List UInt8 → List UInt8 → List UInt8} {a : Int} {s : List UInt8} (h : mayS a (bodyS s) = false) : okS f a s = false := by
  rw [okS, h]; simp
theorem ok_pack {f : List UInt8 → List UInt8 → List UInt8} {a : Int} {s : List UInt8} (h0 : sizeS s ≤ 103) (h : mayS a (bodyS s) = true) : okS f a s = decide (packS f a (genS s) (bodyS s) = s) := by
  rw [okS, h, decide_eq_true h0, packS, h, if_pos rfl]; rfl
theorem rd_takeS {B : Nat} {w : World} {A : Option Addr} {l : List UInt8} (h : Rd B w A (bv l)) (n : Nat) : Rd B w A (bv (l.take n)) := fun k u hu => h k u (bv_take_get hu)
set_option maxRecDepth 100000 in
set_option maxHeartbeats 6400000 in
theorem unpack_nil  (a : Int) (s : List UInt8) (hs : s.length = 128) (w : World) :
    Calls Try.prog 24 #[.nilIface, .int .i64 a, .agg (bva s)] w (RetU 0 [] false w) := by
  have HS := Lib.hid hs
  obtain ⟨w2, hw2⟩ : ∃ w2, w2 = w.alloc (.cells (bva s) 52) := ⟨_, rfl⟩
  have b1 : Blk w2 w.heap.size (bva s) 52 := by rw [hw2]; exact heap_alloc_new _ _
  have B1 := Lib.hid b1
  have BB := Lib.hid (show Below w.heap.size w w2 from by rw [hw2]; exact (Below.refl _ _).alloc (Nat.le_refl _) _)
  have HIS : Hid ((Try.prog.info? 52).map (·.size) = some (bva s).size) := by rw [bva_size, hs]; exact info_sec
  obtain ⟨q, hq0⟩ : ∃ q, q = s.getD 24 0 := ⟨_, rfl⟩
  have hqn : sizeS s = q.toNat := by rw [sizeS, hq0]
  obtain ⟨n, hn⟩ : ∃ n : Nat, n = q.toNat := ⟨_, rfl⟩
  have hnb : n < 256 := by rw [hn]; exact UInt8.toNat_lt q
  have c24 := b1.cellb (k := 24) (by rw [hs]; omega)
  rw [← hq0, ← hn, hw2] at c24
  have HN := Lib.hid (show sizeS s = n by rw [hqn, hn])
  by_cases hlong : 103 < n
  · have hd : decide ((103 : Int) < (n : Int)) = true := by simp; omega
    have HL := Lib.hid hlong
    clear b1 hs hq0 hqn hn hlong
    go_enter Try.func24, Try.ntmps24
    go_wp2_with fail
    rw [← hw2]
    go_ret3
    exact RetU.none BB.out
  · have hd : decide ((103 : Int) < (n : Int)) = false := by simp; omega
    have wn2 : IntKind.i64.wrap (25 + (n : Int)) = 25 + (n : Int) := IntWalk.i64_in _ (by omega)
    have hsl : ∀ W, (Instr.sliceAt 52 (.pointer (some ⟨w.heap.size, 0, none⟩)) (some (.int .i64 25)) (some (.int .i64 (25 + (n : Int)))) none).run Try.prog W = .ok (.slice (some ⟨w.heap.size, 25, none⟩) n 103) W := fun W => by
      have h := slice_sec W w.heap.size 25 (25 + n) (by omega) (by omega) (by omega)
      rw [show 25 + n - 25 = n by omega, Int.natCast_add] at h
      exact h
    have h25 : n ≤ 103 := by omega
    have HNL := Lib.hid h25
    obtain ⟨g, hg⟩ : ∃ g, g = genS s := ⟨_, rfl⟩
    obtain ⟨b, hb⟩ : ∃ b, b = bodyS s := ⟨_, rfl⟩
    have HG := Lib.hid (show U64 g from by rw [hg]; exact genS_lt s)
    have HB3 := Lib.hid (show b.length = n by rw [hb, bodyS_length hs (by omega), HN.out])
    have HGW := Lib.hid (show ∀ W, Blk W w.heap.size (bva s) 52 → Calls Try.prog 53 #[.slice (some ⟨w.heap.size, 16, none⟩) 8 112] W fun e w' => e = .returned (.tuple #[.int .u64 (g : Int), .bool true]) ∧ W = w' from fun W hW => by
      rw [hg]
      exact Wi.wget_in (some ⟨w.heap.size, 16, none⟩) 8 112 ((s.drop 16).take 8) W (by rw [List.length_take, List.length_drop, hs]; rfl) (rd_takeS (rd_part hW 16) 8) (by omega) (by omega))
    have HBR := Lib.hid (show ∀ W, Blk W w.heap.size (bva s) 52 → Rd W.heap.size W (some ⟨w.heap.size, 25, none⟩) (bv b) from fun W hW => by
      rw [hb, bodyS]; exact rd_takeS (rd_part hW 25) _)
    obtain ⟨p, hp⟩ : ∃ p, p = zeroS := ⟨_, rfl⟩
    have HP3 := Lib.hid (show p.length = 128 by rw [hp]; exact zeroS_length)
    have HIP : Hid ((Try.prog.info? 52).map (·.size) = some (bva p).size) := by rw [bva_size, HP3.out]; exact info_sec
    have HCP := Lib.hid (show ∀ W A c, Rd W.heap.size W A (bv b) → Calls Try.prog 23 #[.nilIface, .int .i64 a, .int .u64 g, .slice A n c] W (RetB (.tuple #[.agg (bva p), .bool false]) W) from fun W A c hr => by
      rw [hp]; exact pack_nil a g A n c W)
    clear hp
    obtain ⟨z, hz0⟩ : ∃ z : List UInt8, z = zeroS := ⟨_, rfl⟩
    have hz : ∀ W, (zeroValue 52).run Try.prog W = .ok (.agg (bva z)) W := fun _ => by rw [hz0]; kernel_rfl
    have HZ3 := Lib.hid (show z.length = 128 by rw [hz0]; exact zeroS_length)
    clear b1 hs hq0 hqn hn hlong hg hb hz0
    go_enter Try.func24, Try.ntmps24
    go_wp2_with fail
    rw [← hw2]
    clear hw2 c24
    refine (HGW.out _ B1.out).mono ?_
    rintro e w3 ⟨rfl, rfl⟩
    go_wp2_with fail
    refine (clone_any (B := w2.heap.size) (some ⟨w.heap.size, 25, none⟩) n _ b _ HB3.out (Nat.le_refl _) (HBR.out _ B1.out) (by omega)).mono ?_
    rintro e w4 ⟨A4, n4, c4, rfl, ho, hb4⟩
    obtain rfl : n = n4 := by have := own_blen ho; have := HB3.out; omega
    have O4 := Lib.hid (own_more ho BB.out.size)
    have C1 := Lib.hid (B1.out.below hb4)
    have CB := Lib.hid (BB.out.trans (hb4.mono BB.out.size))
    clear ho hb4 B1 BB
    go_wp2_with fail
    refine (HCP.out _ A4 c4 (Rd.own O4.out)).mono ?_
    rintro e w5 ⟨rfl, bw⟩
    have O5 := Lib.hid (own_below O4.out bw)
    have D1 := Lib.hid (C1.out.below bw)
    have DB := Lib.hid (CB.out.trans (bw.mono CB.out.size))
    clear bw C1 CB O4
    go_wp2_with (show wpList _ _ _ ({ dst := none, op := .store 52 (.tmp 10) (.tmp 32), type := _, pos := _, after := _, guard := _ } :: _) _ _; apply Classical.byContradiction; intro hneg)
    refine hneg ?_
    clear hneg
    refine wpList_store_row rfl 52 (.tmp 10) (.tmp 32) rfl w5.heap.size (bva p) rfl rfl 52 (bva z) (heap_alloc_new _ _) HIP.out (by rw [bva_size, bva_size, HP3.out, HZ3.out]) (bva_one _) ?_
    obtain ⟨w6, hw6⟩ : ∃ w6, w6 = (w5.alloc (.cells (bva z) 52)).setRow w5.heap.size (bva p) := ⟨_, rfl⟩
    rw [← hw6]
    obtain ⟨g6, hg6⟩ : ∃ g6, g6 = w5.heap.size := ⟨_, rfl⟩
    have hb6 : Below w5.heap.size w5 w6 := by rw [hw6]; exact below_new (Below.refl _ _) (Nat.le_refl _)
    have E1 := Lib.hid (D1.out.below hb6)
    have E2 := Lib.hid (show Blk w6 g6 (bva p) 52 from by rw [hw6, hg6]; exact blk_new _)
    have O6 := Lib.hid (own_below O5.out hb6)
    have EB := Lib.hid (DB.out.trans (hb6.mono DB.out.size))
    rw [← hg6]
    clear hw6 hg6 hb6 D1 DB O5
    go_wp2_with fail
    go_ret3
    exact RetU.none EB.out
set_option maxRecDepth 100000 in
set_option maxHeartbeats 6400000 in
theorem unpack_any (ci : SCiph) (a : Int) (s : List UInt8) (hs : s.length = 128) (w : World) :
    Calls Try.prog 24 #[ci.v, .int .i64 a, .agg (bva s)] w (RetU (unpackS ci.f a s).1 (unpackS ci.f a s).2 (okS ci.f a s) w) := by
  have HS := Lib.hid hs
  obtain ⟨w2, hw2⟩ : ∃ w2, w2 = w.alloc (.cells (bva s) 52) := ⟨_, rfl⟩
  have b1 : Blk w2 w.heap.size (bva s) 52 := by rw [hw2]; exact heap_alloc_new _ _
  have B1 := Lib.hid b1
  have BB := Lib.hid (show Below w.heap.size w w2 from by rw [hw2]; exact (Below.refl _ _).alloc (Nat.le_refl _) _)
  have HIS : Hid ((Try.prog.info? 52).map (·.size) = some (bva s).size) := by rw [bva_size, hs]; exact info_sec
  obtain ⟨q, hq0⟩ : ∃ q, q = s.getD 24 0 := ⟨_, rfl⟩
  have hqn : sizeS s = q.toNat := by rw [sizeS, hq0]
  obtain ⟨n, hn⟩ : ∃ n : Nat, n = q.toNat := ⟨_, rfl⟩
  have hnb : n < 256 := by rw [hn]; exact UInt8.toNat_lt q
  have c24 := b1.cellb (k := 24) (by rw [hs]; omega)
  rw [← hq0, ← hn, hw2] at c24
  have HN := Lib.hid (show sizeS s = n by rw [hqn, hn])
  obtain ⟨v, hv⟩ : ∃ v, v = ci.v := ⟨_, rfl⟩
  have HV := Lib.hid hv
  obtain ⟨U1, hU1⟩ : ∃ x, x = (unpackS ci.f a s).1 := ⟨_, rfl⟩
  obtain ⟨U2, hU2⟩ : ∃ x, x = (unpackS ci.f a s).2 := ⟨_, rfl⟩
  obtain ⟨U3, hU3⟩ : ∃ x, x = okS ci.f a s := ⟨_, rfl⟩
  rw [← hv, ← hU1, ← hU2, ← hU3]
  by_cases hlong : 103 < n
  · have hd : decide ((103 : Int) < (n : Int)) = true := by simp; omega
    have HL := Lib.hid hlong
    have ho := ok_long (f := ci.f) (a := a) (by rw [HN.out]; exact hlong)
    obtain rfl : U3 = false := by rw [hU3, ho]
    obtain rfl : U1 = 0 := by rw [hU1, unpackS, ho, if_neg (by simp)]
    obtain rfl : U2 = [] := by rw [hU2, unpackS, ho, if_neg (by simp)]
    clear hv hU1 hU2 hU3 ho
    clear b1 hs hq0 hqn hn hlong
    go_enter Try.func24, Try.ntmps24
    go_wp2_with fail
    rw [← hw2]
    go_ret3
    exact RetU.none BB.out
  · have hd : decide ((103 : Int) < (n : Int)) = false := by simp; omega
    have wn2 : IntKind.i64.wrap (25 + (n : Int)) = 25 + (n : Int) := IntWalk.i64_in _ (by omega)
    have hsl : ∀ W, (Instr.sliceAt 52 (.pointer (some ⟨w.heap.size, 0, none⟩)) (some (.int .i64 25)) (some (.int .i64 (25 + (n : Int)))) none).run Try.prog W = .ok (.slice (some ⟨w.heap.size, 25, none⟩) n 103) W := fun W => by
      have h := slice_sec W w.heap.size 25 (25 + n) (by omega) (by omega) (by omega)
      rw [show 25 + n - 25 = n by omega, Int.natCast_add] at h
      exact h
    have h25 : n ≤ 103 := by omega
    have HNL := Lib.hid h25
    obtain ⟨g, hg⟩ : ∃ g, g = genS s := ⟨_, rfl⟩
    obtain ⟨b, hb⟩ : ∃ b, b = bodyS s := ⟨_, rfl⟩
    have HG := Lib.hid (show U64 g from by rw [hg]; exact genS_lt s)
    have HB3 := Lib.hid (show b.length = n by rw [hb, bodyS_length hs (by omega), HN.out])
    have HGW := Lib.hid (show ∀ W, Blk W w.heap.size (bva s) 52 → Calls Try.prog 53 #[.slice (some ⟨w.heap.size, 16, none⟩) 8 112] W fun e w' => e = .returned (.tuple #[.int .u64 (g : Int), .bool true]) ∧ W = w' from fun W hW => by
      rw [hg]
      exact Wi.wget_in (some ⟨w.heap.size, 16, none⟩) 8 112 ((s.drop 16).take 8) W (by rw [List.length_take, List.length_drop, hs]; rfl) (rd_takeS (rd_part hW 16) 8) (by omega) (by omega))
    have HBR := Lib.hid (show ∀ W, Blk W w.heap.size (bva s) 52 → Rd W.heap.size W (some ⟨w.heap.size, 25, none⟩) (bv b) from fun W hW => by
      rw [hb, bodyS]; exact rd_takeS (rd_part hW 25) _)
    have hu : unpackS ci.f a s = if okS ci.f a s then (g, b) else (0, []) := by rw [unpackS, hg, hb]
    have hu0 : okS ci.f a s = false → U1 = 0 ∧ U2 = [] ∧ U3 = false := fun h => by rw [hU1, hU2, hU3, hu, h, if_neg (by simp)]; exact ⟨rfl, rfl, rfl⟩
    have hu1 : okS ci.f a s = true → U1 = g ∧ U2 = b ∧ U3 = true := fun h => by rw [hU1, hU2, hU3, hu, h, if_pos rfl]; exact ⟨rfl, rfl, rfl⟩
    obtain ⟨p, hp⟩ : ∃ p, p = packS ci.f a g b := ⟨_, rfl⟩
    have HP3 := Lib.hid (show p.length = 128 by rw [hp]; exact packS_length ci.len)
    have HIP : Hid ((Try.prog.info? 52).map (·.size) = some (bva p).size) := by rw [bva_size, HP3.out]; exact info_sec
    obtain ⟨may, hmay⟩ : ∃ may, may = mayS a b := ⟨_, rfl⟩
    have HCP := Lib.hid (show ∀ W A c, Rd W.heap.size W A (bv b) → Calls Try.prog 23 #[v, .int .i64 a, .int .u64 g, .slice A n c] W (RetB (.tuple #[.agg (bva p), .bool may]) W) from fun W A c hr => by
      rw [hp, hmay, HV.out]; exact pack_any ci a g HG.out A n c b W HB3.out hr)
    have hok2 : may = true → okS ci.f a s = decide (p = s) := fun h => by rw [ok_pack (by rw [HN.out]; exact HNL.out) (by rw [← hb, ← hmay, h]), hp, hg, hb]
    have HE0 := Lib.hid (show may = false → U1 = 0 ∧ U2 = [] ∧ U3 = false from fun h => hu0 (ok_not (by rw [← hb, ← hmay, h])))
    have HE1 := Lib.hid (show may = true → p = s → U1 = g ∧ U2 = b ∧ U3 = true from fun h h' => hu1 (by rw [hok2 h, decide_eq_true h']))
    have HE2 := Lib.hid (show may = true → ¬ p = s → U1 = 0 ∧ U2 = [] ∧ U3 = false from fun h h' => hu0 (by rw [hok2 h, decide_eq_false h']))
    clear hp hmay hv hu hu0 hu1 hok2 hU1 hU2 hU3
    obtain ⟨z, hz0⟩ : ∃ z : List UInt8, z = zeroS := ⟨_, rfl⟩
    have hz : ∀ W, (zeroValue 52).run Try.prog W = .ok (.agg (bva z)) W := fun _ => by rw [hz0]; kernel_rfl
    have HZ3 := Lib.hid (show z.length = 128 by rw [hz0]; exact zeroS_length)
    clear b1 hs hq0 hqn hn hlong hg hb hz0
    go_enter Try.func24, Try.ntmps24
    go_wp2_with fail
    rw [← hw2]
    clear hw2 c24
    refine (HGW.out _ B1.out).mono ?_
    rintro e w3 ⟨rfl, rfl⟩
    go_wp2_with fail
    refine (clone_any (B := w2.heap.size) (some ⟨w.heap.size, 25, none⟩) n _ b _ HB3.out (Nat.le_refl _) (HBR.out _ B1.out) (by omega)).mono ?_
    rintro e w4 ⟨A4, n4, c4, rfl, ho, hb4⟩
    obtain rfl : n = n4 := by have := own_blen ho; have := HB3.out; omega
    have O4 := Lib.hid (own_more ho BB.out.size)
    have C1 := Lib.hid (B1.out.below hb4)
    have CB := Lib.hid (BB.out.trans (hb4.mono BB.out.size))
    clear ho hb4 B1 BB
    go_wp2_with fail
    refine (HCP.out _ A4 c4 (Rd.own O4.out)).mono ?_
    rintro e w5 ⟨rfl, bw⟩
    have O5 := Lib.hid (own_below O4.out bw)
    have D1 := Lib.hid (C1.out.below bw)
    have DB := Lib.hid (CB.out.trans (bw.mono CB.out.size))
    clear bw C1 CB O4
    go_wp2_with (show wpList _ _ _ ({ dst := none, op := .store 52 (.tmp 10) (.tmp 32), type := _, pos := _, after := _, guard := _ } :: _) _ _; apply Classical.byContradiction; intro hneg)
    refine hneg ?_
    clear hneg
    refine wpList_store_row rfl 52 (.tmp 10) (.tmp 32) rfl w5.heap.size (bva p) rfl rfl 52 (bva z) (heap_alloc_new _ _) HIP.out (by rw [bva_size, bva_size, HP3.out, HZ3.out]) (bva_one _) ?_
    obtain ⟨w6, hw6⟩ : ∃ w6, w6 = (w5.alloc (.cells (bva z) 52)).setRow w5.heap.size (bva p) := ⟨_, rfl⟩
    rw [← hw6]
    obtain ⟨g6, hg6⟩ : ∃ g6, g6 = w5.heap.size := ⟨_, rfl⟩
    have hb6 : Below w5.heap.size w5 w6 := by rw [hw6]; exact below_new (Below.refl _ _) (Nat.le_refl _)
    have E1 := Lib.hid (D1.out.below hb6)
    have E2 := Lib.hid (show Blk w6 g6 (bva p) 52 from by rw [hw6, hg6]; exact blk_new _)
    have O6 := Lib.hid (own_below O5.out hb6)
    have EB := Lib.hid (DB.out.trans (hb6.mono DB.out.size))
    rw [← hg6]
    clear hw6 hg6 hb6 D1 DB O5
    cases may
    · go_wp2_with fail
      go_ret3
      obtain ⟨h1, h2, h3⟩ := HE0.out (by first | rfl | trivial)
      rw [h1, h2, h3]
      exact RetU.none EB.out
    · by_cases hps : p = s
      · have HEQ := Lib.hid (show ∀ W, (Op.equalIn 10000 52 (.agg (bva p)) (.agg (bva s))).run Try.prog W = .ok true W from fun W => by rw [eq_sec p s HP3.out HS.out, decide_eq_true hps])
        have heq := HEQ.out
        have HPS := Lib.hid hps
        clear hps
        go_wp2_with (first
          | (refine wpList_execg8 (o := { dst := some 37, op := .load 52 (.tmp 10), type := _, pos := _, after := _, guard := _ }) (v := .agg (bva p)) (w' := w6) rfl ?hl1 ?_; case hl1 => exact exec_load 52 (.tmp 10) rfl rfl E2.out Try.underlying52 rfl HIP.out)
          | (refine wpList_execg8 (o := { dst := some 38, op := .load 52 (.tmp 5), type := _, pos := _, after := _, guard := _ }) (v := .agg (bva s)) (w' := w6) rfl ?hl2 ?_; case hl2 => exact exec_load 52 (.tmp 5) rfl rfl E1.out Try.underlying52 rfl HIS.out))
        go_ret3
        obtain ⟨h1, h2, h3⟩ := HE1.out (by first | rfl | trivial) HPS.out
        rw [h1, h2, h3]
        exact ⟨A4, n, c4, rfl, O6.out, EB.out⟩
      · have HEQ := Lib.hid (show ∀ W, (Op.equalIn 10000 52 (.agg (bva p)) (.agg (bva s))).run Try.prog W = .ok false W from fun W => by rw [eq_sec p s HP3.out HS.out, decide_eq_false hps])
        have heq := HEQ.out
        have HPS := Lib.hid hps
        clear hps
        go_wp2_with (first
          | (refine wpList_execg8 (o := { dst := some 37, op := .load 52 (.tmp 10), type := _, pos := _, after := _, guard := _ }) (v := .agg (bva p)) (w' := w6) rfl ?hl1 ?_; case hl1 => exact exec_load 52 (.tmp 10) rfl rfl E2.out Try.underlying52 rfl HIP.out)
          | (refine wpList_execg8 (o := { dst := some 38, op := .load 52 (.tmp 5), type := _, pos := _, after := _, guard := _ }) (v := .agg (bva s)) (w' := w6) rfl ?hl2 ?_; case hl2 => exact exec_load 52 (.tmp 5) rfl rfl E1.out Try.underlying52 rfl HIS.out))
        go_ret3
        obtain ⟨h1, h2, h3⟩ := HE2.out (by first | rfl | trivial) HPS.out
        rw [h1, h2, h3]
        exact RetU.none EB.out
end Go.Proofs.Ythdmdlnndbjcoaa.Sx
