/-
  How arguments that came in are opened: a []byte, a slice of them, and so on, as what my words say of them.
-/
import Derived.Test.YtmokigcplgjgiaaWords
import Derived.Deep.Slices
import Derived.OpenShut
namespace Go.Proofs.Ytmokigcplgjgiaa
open Go.RowKit Go.ChangeShapes Go.WideShapes

/-- The byte of a number. -/
def byteOf (n : Int) : UInt8 := UInt8.ofNat n.toNat
theorem byteOf_val {n : Int} (h : (Lit.int .u8 n).wf = true) : ((byteOf n).toNat : Int) = n := by
  have hb := bounds_u8 h
  unfold byteOf
  rw [UInt8.toNat_ofNat']
  omega

section
variable {H : Type} {enc : TypeId × Value → H} {P : Program} {w : World} {base : Nat} {spare : Nat → Bool} {held : Bool}

theorem isB_of_trod {t e fuel : Nat} {v : Value} {x : DataW H × List MemPlace} (ht : P.underlying t = some (.slice e)) (he : P.underlying e = some (.int .u8)) (hc : P.cellsOf e = 1)
    (h : DataW.trod enc P w base spare held fuel t [v] = some x) : ∃ l, IsB w.heap.size w v l := by
  rcases open_ints ht he hc h with ⟨hcs, _⟩ | ⟨a, len, cap, zs, hcs, _, hl, hm, hz, _, hcell, hwz⟩
  · simp only [List.cons.injEq, and_true] at hcs
    subst hcs
    exact ⟨[], none, 0, rfl, Nat.le_refl _, Nat.zero_le _, Rd.none⟩
  · simp only [List.cons.injEq, and_true] at hcs
    subst hcs
    have hlz : len ≤ zs.length := by rw [hz]; split <;> omega
    have hlen : ((zs.take len).map byteOf).length = len := by simp; omega
    refine ⟨(zs.take len).map byteOf, some a, cap, by rw [hlen], by omega, hm, fun k u hu => ?_⟩
    have hk : k < len := by
      have := (List.getElem?_eq_some_iff.1 hu).1
      rw [bv_length, hlen] at this
      exact this
    have hkz : k < zs.length := by omega
    have hg := hcell k hkz
    have hd : zs.getD k 0 = zs[k] := by simp [List.getD, hkz]
    have hw := hwz _ (List.getElem_mem hkz)
    have hb := World.block_lt_of_cell? _ _ hg
    rw [add_block] at hb
    refine ⟨a, rfl, hb, ?_⟩
    rw [hg, hd]
    have e2 : (bv ((zs.take len).map byteOf))[k]? = some (.int .u8 zs[k]) := by
      rw [bv_get (by rw [hlen]; exact hk)]
      simp only [List.getElem_map, List.getElem_take]
      rw [byteOf_val hw]
    rw [← hu, e2]

theorem isL_of_trod {α : Type} {R : Value → α → Prop} {t e fuel : Nat} {v : Value} {x : DataW H × List MemPlace} (ht : P.underlying t = some (.slice e)) (hc : P.cellsOf e = 1)
    (each : ∀ (n : Nat) (u : Value) (y : DataW H × List MemPlace), DataW.trod enc P w base spare held n e [u] = some y → ∃ l, R u l)
    (h : DataW.trod enc P w base spare held fuel t [v] = some x) : ∃ ls, IsL w.heap.size w R v ls := by
  rcases Go.Deep.open_slice1 ht hc h with ⟨hcs, _⟩ | ⟨a, len, cap, m, n, V, D, Pl, hcs, _, hl, hm, hmm, _, hx⟩
  · simp only [List.cons.injEq, and_true] at hcs
    subst hcs
    exact ⟨[], none, 0, rfl, Nat.le_refl _, Nat.zero_le _, RdL.none⟩
  · simp only [List.cons.injEq, and_true] at hcs
    subst hcs
    have hlm : len ≤ m := by rw [hmm]; split <;> omega
    have hall : ∀ j, j ≤ len → ∃ ls : List α, ls.length = j ∧ ∀ (k : Nat) (l : α), ls[k]? = some l → R (V k) l := by
      intro j
      induction j with
      | zero => exact fun _ => ⟨[], rfl, fun k l hk => by simp at hk⟩
      | succ j ih =>
        intro hj
        obtain ⟨ls, hls, hR⟩ := ih (by omega)
        obtain ⟨l, hl'⟩ := each n (V j) _ (hx j (by omega)).2
        refine ⟨ls ++ [l], by simp [hls], fun k l' hk => ?_⟩
        rcases Nat.lt_trichotomy k j with hlt | rfl | hgt
        · rw [List.getElem?_append_left (by omega)] at hk
          exact hR k l' hk
        · rw [List.getElem?_append_right (by omega), hls, Nat.sub_self] at hk
          injection hk with hk
          subst hk
          exact hl'
        · rw [List.getElem?_eq_none (by simp; omega)] at hk
          cases hk
    obtain ⟨ls, hls, hR⟩ := hall len (Nat.le_refl _)
    refine ⟨ls, some a, cap, by rw [hls], by omega, hm, (List.range len).map V, by simp [hls], fun k u hu => ?_, fun k u l hu hl' => ?_⟩
    · have hk : k < len := by have := (List.getElem?_eq_some_iff.1 hu).1; simpa using this
      have hg := (hx k (by omega)).1
      have hb := World.block_lt_of_cell? _ _ hg
      rw [add_block] at hb
      have e2 : ((List.range len).map V)[k]? = some (V k) := by simp [hk]
      exact ⟨a, rfl, hb, by rw [hg, ← hu, e2]⟩
    · have hk : k < len := by have := (List.getElem?_eq_some_iff.1 hu).1; simpa using this
      have e2 : ((List.range len).map V)[k]? = some (V k) := by simp [hk]
      rw [e2] at hu
      injection hu with hu
      subst hu
      exact hR k l hl'

/-- A []byte that came in. -/
theorem open_bytes {t e : Nat} {a : Option Addr} {len cap : Nat} {d : DataW H} {ps : List MemPlace} (ht : P.underlying t = some (.slice e)) (he : P.underlying e = some (.int .u8)) (hc : P.cellsOf e = 1)
    (h : DataW.Trod enc P w base spare held t (.slice a len cap) d ps) : ∃ l : List UInt8, l.length = len ∧ len ≤ cap ∧ cap ≤ maxLen ∧ Rd w.heap.size w a (bv l) := by
  obtain ⟨fuel, hf⟩ := h
  obtain ⟨l, A, c, hv, h1, h2, h3⟩ := isB_of_trod ht he hc hf
  injection hv with e1 e2 e3
  subst e1; subst e2; subst e3
  exact ⟨l, rfl, h1, h2, h3⟩
/-- A [][]byte that came in. -/
theorem open_rows {t s e : Nat} {a : Option Addr} {len cap : Nat} {d : DataW H} {ps : List MemPlace} (ht : P.underlying t = some (.slice s)) (hs : P.underlying s = some (.slice e)) (he : P.underlying e = some (.int .u8))
    (hcs : P.cellsOf s = 1) (hc : P.cellsOf e = 1)
    (h : DataW.Trod enc P w base spare held t (.slice a len cap) d ps) : ∃ ls : List (List UInt8), ls.length = len ∧ len ≤ cap ∧ cap ≤ maxLen ∧ RdB w.heap.size w a ls := by
  obtain ⟨fuel, hf⟩ := h
  obtain ⟨ls, A, c, hv, h1, h2, h3⟩ := isL_of_trod (R := IsB w.heap.size w) ht hcs (fun _ _ _ hy => isB_of_trod hs he hc hy) hf
  injection hv with e1 e2 e3
  subst e1; subst e2; subst e3
  exact ⟨ls, rfl, h1, h2, h3⟩
/-- A [][][]byte that came in. -/
theorem open_rows3 {t r s e : Nat} {a : Option Addr} {len cap : Nat} {d : DataW H} {ps : List MemPlace} (ht : P.underlying t = some (.slice r)) (hr : P.underlying r = some (.slice s)) (hs : P.underlying s = some (.slice e)) (he : P.underlying e = some (.int .u8))
    (hcr : P.cellsOf r = 1) (hcs : P.cellsOf s = 1) (hc : P.cellsOf e = 1)
    (h : DataW.Trod enc P w base spare held t (.slice a len cap) d ps) : ∃ ls : List (List (List UInt8)), ls.length = len ∧ len ≤ cap ∧ cap ≤ maxLen ∧ RdL w.heap.size w (IsL w.heap.size w (IsB w.heap.size w)) a ls := by
  obtain ⟨fuel, hf⟩ := h
  obtain ⟨ls, A, c, hv, h1, h2, h3⟩ := isL_of_trod (R := IsL w.heap.size w (IsB w.heap.size w)) ht hcr (fun _ _ _ hy => isL_of_trod hr hcs (fun _ _ _ hz => isB_of_trod hs he hc hz) hy) hf
  injection hv with e1 e2 e3
  subst e1; subst e2; subst e3
  exact ⟨ls, rfl, h1, h2, h3⟩
end

end Go.Proofs.Ytmokigcplgjgiaa
