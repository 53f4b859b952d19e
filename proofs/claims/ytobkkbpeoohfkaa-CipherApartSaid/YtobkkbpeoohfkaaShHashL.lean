/-
  What is kept of a text that comes in pieces: its cells; how it goes on; its sum.
-/
import Derived.Test.YtobkkbpeoohfkaaShMid
import Derived.Test.YtobkkbpeoohfkaaShPadL
namespace Go.Proofs.Ytobkkbpeoohfkaa
open Go.RowKit
theorem overTo_front (s : List UInt32) (T X : List UInt8) : ∀ n, 64 * n ≤ T.length → overTo s (T ++ X) n = overTo s T n
  | 0, _ => rfl
  | n + 1, h => by
    rw [overTo, overTo, overTo_front s T X n (by omega), List.drop_append_of_le_length (by omega), List.take_append_of_le_length (by rw [List.length_drop]; omega)]
theorem overTo_add (s : List UInt32) (t : List UInt8) (a : Nat) : ∀ b, overTo s t (a + b) = overTo (overTo s t a) (t.drop (64 * a)) b
  | 0 => rfl
  | b + 1 => by
    rw [← Nat.add_assoc, overTo, overTo, overTo_add s t a b, List.drop_drop, show 64 * a + 64 * b = 64 * (a + b) by omega]
/-- Words and rest, behind the text T. -/
structure Kept (T : List UInt8) (ws : List UInt32) (rs : List UInt8) : Prop where
  eight : ws.length = 8
  room : rs.length = 64
  words : ws = overTo firstL T (T.length / 64)
  rest : rs.take (T.length % 64) = T.drop (64 * (T.length / 64))
theorem Kept.first {rs : List UInt8} (h : rs.length = 64) : Kept [] firstL rs := ⟨rfl, h, rfl, rfl⟩
/-- What was written fills no block. -/
theorem Kept.more {T cs : List UInt8} {ws : List UInt32} {rs : List UInt8} (h : Kept T ws rs) (hl : T.length % 64 + cs.length < 64) : Kept (T ++ cs) ws (splice rs (T.length % 64) cs) := by
  have hr := h.room
  have hq : (T ++ cs).length / 64 = T.length / 64 := by rw [List.length_append]; omega
  have hm : (T ++ cs).length % 64 = T.length % 64 + cs.length := by rw [List.length_append]; omega
  refine ⟨h.eight, by rw [length_splice _ _ _ (by omega), hr], by rw [hq, overTo_front _ _ _ _ (by omega)]; exact h.words, ?_⟩
  have hd := h.rest
  rw [hq, hm, List.drop_append_of_le_length (by omega), ← hd]
  unfold splice
  rw [← List.append_assoc, List.take_left' (by rw [List.length_append, List.length_take]; omega)]
/-- What was written fills one. -/
theorem Kept.full {T cs : List UInt8} {ws : List UInt32} {rs : List UInt8} (h : Kept T ws rs) (hl : T.length % 64 + cs.length = 64) : Kept (T ++ cs) (compL ws (splice rs (T.length % 64) cs)) (List.replicate 64 0) := by
  have hr := h.room
  have hq : (T ++ cs).length / 64 = T.length / 64 + 1 := by rw [List.length_append]; omega
  have hm : (T ++ cs).length % 64 = 0 := by rw [List.length_append]; omega
  have hd := h.rest
  have hs : splice rs (T.length % 64) cs = (T ++ cs).drop (64 * (T.length / 64)) := by
    unfold splice
    rw [List.drop_of_length_le (by omega), List.append_nil, List.drop_append_of_le_length (by omega), ← hd]
  refine ⟨by rw [compL_length]; exact h.eight, by simp, ?_, ?_⟩
  · rw [hq, overTo, overTo_front _ _ _ _ (by omega), ← h.words, hs, List.take_of_length_le (by rw [List.length_drop, List.length_append]; omega)]
  · rw [hq, hm, List.take_zero, List.drop_of_length_le (by rw [List.length_append]; omega)]
/-- The sum by what is kept. -/
theorem Kept.sum {T : List UInt8} {ws : List UInt32} {rs : List UInt8} (h : Kept T ws rs) : toldB (overL ws (padP (rs.take (T.length % 64)) T.length)) = shaL T := by
  rw [shaL, h.rest]
  congr 1
  obtain ⟨q, hq⟩ : ∃ q, q = T.length / 64 := ⟨_, rfl⟩
  have hlen : (T.drop (64 * q)).length = T.length - 64 * q := by rw [List.length_drop]
  have hpad : padL T = T.take (64 * q) ++ padP (T.drop (64 * q)) T.length := by
    have e : padN T.length - T.length - 9 = padN (T.length - 64 * q) - (T.length - 64 * q) - 9 := by unfold padN; omega
    rw [padL, padP, padP, hlen, e, ← List.append_assoc, List.take_append_drop]
  have hdrop : (padL T).drop (64 * q) = padP (T.drop (64 * q)) T.length := by
    rw [hpad, List.drop_left' (by rw [List.length_take]; omega)]
  have hn : (padL T).length / 64 = q + (padP (T.drop (64 * q)) T.length).length / 64 := by
    rw [padL_length, padP_length, hlen]; unfold padN; omega
  rw [← hq, overL, overL, hn, overTo_add, hdrop]
  congr 1
  have hw := h.words
  rw [← hq] at hw
  rw [hw]
  have e := overTo_front firstL (T.take (64 * q)) (padP (T.drop (64 * q)) T.length) q (by rw [List.length_take]; omega)
  rw [← hpad] at e
  have e2 := overTo_front firstL (T.take (64 * q)) (T.drop (64 * q)) q (by rw [List.length_take]; omega)
  rw [List.take_append_drop] at e2
  rw [e, e2]
/-- The cells of a hash. -/
def uvl (ws : List UInt32) : List Value := ws.map fun x => Value.int .u32 (x.toNat : Int)
theorem uv_uvl (ws : List UInt32) : uv ws = (uvl ws).toArray := rfl
theorem uvl_length (ws : List UInt32) : (uvl ws).length = ws.length := by simp [uvl]
theorem uvl_one (ws : List UInt32) : ∀ v ∈ uvl ws, v.oneCell' = true := by
  intro u hu
  simp only [uvl, List.mem_map] at hu
  obtain ⟨c, _, rfl⟩ := hu
  rfl
def hC (ws : List UInt32) (rs : List UInt8) (s : Nat) : List Value := uvl ws ++ (bv rs ++ [.int .u64 (s : Int)])
theorem hC_length {ws : List UInt32} {rs : List UInt8} (hw : ws.length = 8) (hr : rs.length = 64) (s : Nat) : (hC ws rs s).length = 73 := by
  simp [hC, uvl_length, bv_length, hw, hr]
section
variable {w : World} {g s : Nat} {ws : List UInt32} {rs : List UInt8} {A : TypeId}
theorem hC_words (h : Blk w g (hC ws rs s).toArray A) : w.rangeAt g 0 (uvl ws) := range_of_blk (X := []) h
theorem hC_rest (hw : ws.length = 8) (h : Blk w g (hC ws rs s).toArray A) : w.rangeAt g 8 (bv rs) := by
  have h1 := range_of_blk (X := uvl ws) (Y := bv rs) (Z := [.int .u64 (s : Int)]) h
  rw [uvl_length, hw] at h1
  exact h1
theorem hC_size (hw : ws.length = 8) (hr : rs.length = 64) (h : Blk w g (hC ws rs s).toArray A) : w.cell? ⟨g, 72, none⟩ = some (.int .u64 (s : Int)) := by
  rw [h.cell, List.getElem?_toArray, hC, List.getElem?_append_right (by rw [uvl_length]; omega), uvl_length, hw, List.getElem?_append_right (by rw [bv_length]; omega), bv_length, hr]
  rfl
theorem hC_setSize (hw : ws.length = 8) (hr : rs.length = 64) (h : Blk w g (hC ws rs s).toArray A) (s' : Nat) {v : Value} (hv : v = .int .u64 (s' : Int)) : Blk (w.setCell ⟨g, 72, none⟩ v) g (hC ws rs s').toArray A := by
  have h1 := heap_setCell_same w g 72 _ A v h
  rw [List.setIfInBounds_toArray] at h1
  have e : (hC ws rs s).set 72 v = hC ws rs s' := by
    rw [hC, List.set_append_right _ _ (by rw [uvl_length]; omega), uvl_length, hw, List.set_append_right _ _ (by rw [bv_length]; omega), bv_length, hr, hv]
    rfl
  rw [e] at h1
  exact h1
theorem hC_setWords (hw : ws.length = 8) (h : Blk w g (hC ws rs s).toArray A) {ws' : List UInt32} (hw' : ws'.length = 8) : Blk (w.setCells g 0 (uvl ws')) g (hC ws' rs s).toArray A := by
  have h1 := row_setCells g A (uvl ws') 0 w (hC ws rs s) h (by simp [hC, uvl_length, hw, hw'])
  have e : splice (hC ws rs s) 0 (uvl ws') = hC ws' rs s := by
    rw [hC, splice_left _ _ _ _ (by rw [uvl_length, uvl_length]; omega), splice_whole _ _ (by rw [uvl_length, uvl_length, hw, hw'])]; rfl
  rw [e] at h1
  exact h1
theorem hC_splice (hw : ws.length = 8) {o : Nat} {cs : List UInt8} (ho : o + cs.length ≤ rs.length) : splice (hC ws rs s) (8 + o) (bv cs) = hC ws (splice rs o cs) s := by
  have e := splice_right (uvl ws) (bv rs ++ [Value.int .u64 (s : Int)]) o (bv cs)
  rw [uvl_length, hw] at e
  rw [hC, e, splice_left _ _ _ _ (by rw [bv_length, bv_length]; exact ho), splice_bv]; rfl
theorem hC_setRest (hw : ws.length = 8) (hr : rs.length = 64) (h : Blk w g (hC ws rs s).toArray A) {rs' : List UInt8} (hr' : rs'.length = 64) : Blk (w.setCells g 8 (bv rs')) g (hC ws rs' s).toArray A := by
  have h1 := row_setCells g A (bv rs') 8 w (hC ws rs s) h (by simp [hC, uvl_length, bv_length, hw, hr, hr'])
  have e := hC_splice (s := s) (rs := rs) hw (o := 0) (cs := rs') (by omega)
  rw [splice_whole _ _ (by omega)] at e
  rw [show 8 + 0 = 8 from rfl] at e
  rw [e] at h1
  exact h1
end
end Go.Proofs.Ytobkkbpeoohfkaa
