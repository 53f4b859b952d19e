/-
  Texts of this seat, one behind the other: SuOneP, SuScP.
-/
import Derived.Test.YtnplhagfmfggcaaSx1
/-
  A mirror on which one super stands, and of which one device is out, or rots: what its places come to.
-/
namespace Go.Proofs.Ytnplhagfmfggcaa.Su
open Go.RowKit Kd Mi Sx
/-- Four sectors on two devices. -/
def stM (L M : List (List UInt8)) (o0 o1 : Bool) : Md := ⟨L, M, o0, o1, List.replicate 4 false, List.replicate 4 false⟩
theorem stM_len (L M : List (List UInt8)) (o0 o1 : Bool) : (stM L M o0 o1).a.length = 4 := List.length_replicate
theorem stM_start (L M : List (List UInt8)) : Sc.startM L M 4 = stM L M false false := rfl
def oneL (s : Sp) : List (List UInt8) := zeros4.set (placeP s) (secP litSumL s)
theorem oneL_len (s : Sp) : (oneL s).length = 4 := by simp [oneL, zeros4]
theorem oneL_at (s : Sp) (a : Nat) : (oneL s).getD a zeroS = if placeP s = a then secP litSumL s else zeroS := by
  have h1 := place_lt s
  rw [oneL, Su.set_getD (by simp [zeros4]; omega), zeros_getD]
def oneD (s : Sp) (a : Nat) : Option Sp := if placeP s = a then some s else none
theorem one_take (s : Sp) : takeD (takeD (zeroP, false) (oneD s 0)) (oneD s 1) = (s, true) := by
  have h1 := place_lt s
  rcases (show placeP s = 0 ∨ placeP s = 1 by omega) with e1 | e1 <;> simp [oneD, e1, takeD]
theorem zero14 : (List.range 2).all (fun a => !decide (sealedS litSumL (a : Int) (genS (rotS zeroS 24 14)) (bodyS (rotS zeroS 24 14)) = rotS zeroS 24 14)) = true := by decide +kernel
theorem byte24 : ∀ q : Nat, q < 128 → q ≠ 24 → ∀ b : UInt8, (rotS zeroS q b).getD 24 0 = 0 := fun q hq hne b => by
  have h : (rotS zeroS q b).getD 24 0 = zeroS.getD 24 0 := Pk.rotL_other (s := zeroS) (q := q) (y := b) (fun e => hne e.symm)
  rw [h]; rfl
/-- Noughts of which a byte rots are no super. -/
theorem zero_rot {a : Nat} (ha : a < 2) {q : Nat} (hq : q < 128) (b : UInt8) : isS litSumL a (rotS zeroS q b) = false := by
  by_cases h24 : q = 24
  · subst h24
    have hb : (rotS zeroS 24 b).getD 24 0 = b := by
      have h : (rotS zeroS 24 b).getD 24 0 = zeroS.getD 24 0 ^^^ b := Pk.rotL_at (s := zeroS) (by rw [zeroS_length]; omega)
      rw [h, show zeroS.getD 24 0 = (0 : UInt8) from rfl, UInt8.zero_xor]
    by_cases h14 : b = 14
    · subst h14
      have h := List.all_eq_true.1 zero14 a (List.mem_range.2 ha)
      have h2 : decide (sealedS litSumL (a : Int) (genS (rotS zeroS 24 14)) (bodyS (rotS zeroS 24 14)) = rotS zeroS 24 14) = false := by simpa using h
      refine is_none ?_
      rw [okS, h2, Bool.and_false, Bool.and_false]
    · have hs : sizeS (rotS zeroS 24 b) = b.toNat := by rw [sizeS, hb]
      have hne : b.toNat ≠ 14 := fun e => h14 (UInt8.toNat_inj.1 e)
      have hl : (bodyS (rotS zeroS 24 b)).length ≠ 14 := by
        rw [bodyS, List.length_take, List.length_drop, rotS_length, zeroS_length, hs]; omega
      rw [isS, is_len hl, Bool.false_and, Bool.and_false]
  · have hs : sizeS (rotS zeroS q b) = 0 := by rw [sizeS, byte24 q hq h24 b]; rfl
    have hl : (bodyS (rotS zeroS q b)).length ≠ 14 := by rw [bodyS, List.length_take, hs]; omega
    rw [isS, is_len hl, Bool.false_and, Bool.and_false]
/-- A super's sector of which a byte rots is as it was, or nobody's. -/
theorem sec_rot (s : Sp) {q : Nat} (hq : q < 128) (b : UInt8) : okS litSumL (placeP s : Int) (rotS (secP litSumL s) q b) = false ∨ rotS (secP litSumL s) q b = secP litSumL s := by
  by_cases hb : b = 0
  · right; subst hb; exact Pk.rotL_zero _ _
  · left; exact Pk.rot_sealed (by rw [encP_length]; omega) hq hb
def rot2 (L : List (List UInt8)) (q : Nat) (b : UInt8) : List (List UInt8) := rotL (rotL L 0 q b) 1 q b
theorem rot2_at {L : List (List UInt8)} (hL : L.length = 4) {a : Nat} (ha : a < 2) (q : Nat) (b : UInt8) : (rot2 L q b).getD a zeroS = rotS (L.getD a zeroS) q b := by
  have h1 : (rotL L 0 q b).length = 4 := by rw [rotL, List.length_set, hL]
  have h01 : (rotL L 0 q b).getD 1 zeroS = L.getD 1 zeroS := by rw [rotL, Su.set_getD (by omega), if_neg (by omega)]
  rw [rot2, rotL, Su.set_getD (by omega), h01]
  rcases (show a = 0 ∨ a = 1 by omega) with rfl | rfl
  · rw [if_neg (by omega), rotL, Su.set_getD (by omega), if_pos rfl]
  · rw [if_pos rfl]
theorem both_st {g : Int → List UInt8 → Bool} {L M : List (List UInt8)} {o0 o1 : Bool} {a : Nat} (ha : a < 4) : (stM L M o0 o1).both g (a : Int) = rowOf (g (a : Int)) (!o0) (!o1) (L.getD a zeroS) (M.getD a zeroS) := both_at (by rw [stM_len]; exact ha)
/-- What one device has at a place where a super, or none, stands: it, or nobody's. -/
def keeps (s : Sp) (a : Nat) (y : List UInt8) : Prop := if placeP s = a then (okS litSumL (a : Int) y = false ∨ y = secP litSumL s) else isS litSumL a y = false
theorem row_keeps {s : Sp} (hs : okP s = true ∧ s.v < 18446744073709551616) {a bx : Nat} (ha : a < 4) {L M : List (List UInt8)} {o0 o1 : Bool} (h : (o0 = false ∧ L.getD (placeP s) zeroS = secP litSumL s) ∨ (o1 = false ∧ M.getD (placeP s) zeroS = secP litSumL s))
    (h0 : o0 = true ∨ keeps s a (L.getD a zeroS)) (h1 : o1 = true ∨ keeps s a (M.getD a zeroS)) : rowD litSumL a (oneD s a) ((stM L M o0 o1).both (gdS litS bx).f (a : Int)) := by
  rw [both_st ha]
  obtain ⟨g, hg⟩ : ∃ g : List UInt8 → Bool, g = (gdS litS bx).f (a : Int) := ⟨_, rfl⟩
  have hgy : ∀ y, g y = okS litSumL (a : Int) y := fun y => by rw [hg]; rfl
  rw [← hg]
  clear hg
  unfold oneD
  by_cases hp : placeP s = a
  · rw [if_pos hp]
    unfold keeps at h0 h1
    rw [if_pos hp] at h0 h1
    rw [hp] at h
    have k1 : g (secP litSumL s) = true := by rw [hgy, ← hp]; exact ok_sec hs.1 hs.2
    refine row_some ⟨hs.1, hs.2, hp⟩ k1 ?_ ?_ ?_
    · rcases h with ⟨e, h⟩ | ⟨e, h⟩
      · left; exact ⟨by rw [e]; rfl, h⟩
      · right; exact ⟨by rw [e]; rfl, h⟩
    · rcases h0 with e | e | e
      · left; rw [e]; rfl
      · right; left; rw [hgy]; exact e
      · right; right; exact e
    · rcases h1 with e | e | e
      · left; rw [e]; rfl
      · right; left; rw [hgy]; exact e
      · right; right; exact e
  · rw [if_neg hp]
    unfold keeps at h0 h1
    rw [if_neg hp] at h0 h1
    refine row_none ?_ ?_
    · rcases h0 with e | e
      · left; rw [e]; rfl
      · right; right; exact e
    · rcases h1 with e | e
      · left; rw [e]; rfl
      · right; right; exact e
theorem keeps_one (s : Sp) {a : Nat} (ha : a < 2) : keeps s a ((oneL s).getD a zeroS) := by
  rw [oneL_at, keeps]
  by_cases hp : placeP s = a
  · rw [if_pos hp, if_pos hp]; exact .inr rfl
  · rw [if_neg hp, if_neg hp]; exact is_none (Lo.zero_no (by omega))
theorem keeps_rot (s : Sp) {a : Nat} (ha : a < 2) {q : Nat} (hq : q < 128) (b : UInt8) : keeps s a ((rot2 (oneL s) q b).getD a zeroS) := by
  rw [rot2_at (oneL_len s) ha, oneL_at, keeps]
  by_cases hp : placeP s = a
  · rw [if_pos hp, if_pos hp, ← hp]; exact sec_rot s hq b
  · rw [if_neg hp, if_neg hp]; exact zero_rot ha hq b
theorem one_sec (s : Sp) : (oneL s).getD (placeP s) zeroS = secP litSumL s := by rw [oneL_at, if_pos rfl]
theorem down_row {L M : List (List UInt8)} {a bx : Nat} (ha : a < 4) : rowD litSumL a none ((stM L M true true).both (gdS litS bx).f (a : Int)) := by
  rw [both_st ha]
  exact row_none (.inl rfl) (.inl rfl)
theorem down_read {L M : List (List UInt8)} {f : Int → List UInt8 → Bool} : ((stM L M true true).read f 0).2 = 13 := by
  have hh : (stM L M true true).has ((0 : Nat) : Int) = true := by rw [Md.has, stM_len]; rfl
  have h0 : (stM L M true true).right f 0 0 = false := by
    rw [Md.right]; show (!_ && (!true && _)) = false; simp
  have h1 : (stM L M true true).right f 1 0 = false := by
    rw [Md.right]; show (!_ && (!true && _)) = false; simp
  rw [show (0 : Int) = ((0 : Nat) : Int) from rfl, Md.read, hh, if_pos rfl, Int.toNat_natCast, h0, h1]
  rfl
theorem rot_st0 (L M : List (List UInt8)) (o0 o1 : Bool) {n q : Nat} (hn : n < 4) (hq : q < 128) (b : UInt8) : (stM L M o0 o1).rot 0 (n : Int) (q : Int) b = stM (rotL L n q b) M o0 o1 := by
  have h : hasByte (stM L M o0 o1).a.length (n : Int) (q : Int) = true := by rw [stM_len, hasByte]; simp; omega
  rw [Md.rot, h, if_pos rfl, if_pos rfl, Int.toNat_natCast, Int.toNat_natCast]; rfl
theorem rot_st1 (L M : List (List UInt8)) (o0 o1 : Bool) {n q : Nat} (hn : n < 4) (hq : q < 128) (b : UInt8) : (stM L M o0 o1).rot 1 (n : Int) (q : Int) b = stM L (rotL M n q b) o0 o1 := by
  have h : hasByte (stM L M o0 o1).a.length (n : Int) (q : Int) = true := by rw [stM_len, hasByte]; simp; omega
  rw [Md.rot, h, if_pos rfl, if_neg (by omega), Int.toNat_natCast, Int.toNat_natCast]; rfl
end Go.Proofs.Ytnplhagfmfggcaa.Su
/-
  A mirror of four sectors that is gone through: what stands then. One super, of which a byte rots on one device.
-/
namespace Go.Proofs.Ytnplhagfmfggcaa.Su
open Go.RowKit Kd Mi Sx Sc
theorem scrub_st (f : Int → List UInt8 → Bool) {L M : List (List UInt8)} (h0 : L.length = 4) (h1 : M.length = 4) :
    ∃ L' M', (mdRun f (stM L M false false, Wk.zero) 4).1 = stM L' M' false false ∧ ∀ j, j < 4 → L'.getD j zeroS = hl0 f j (L.getD j zeroS) (M.getD j zeroS) ∧ M'.getD j zeroS = hl1 f j (L.getD j zeroS) (M.getD j zeroS) := by
  have hF : Fresh (stM L M false false) 4 := Sc.start_fresh h0 h1
  obtain ⟨hr, _, h2, h3⟩ := hF.run (f := f) 4 (Nat.le_refl _)
  obtain ⟨r, hrr⟩ : ∃ r, r = (mdRun f (stM L M false false, Wk.zero) 4).1 := ⟨_, rfl⟩
  rw [← hrr] at hr h2 h3
  rw [← hrr]
  obtain ⟨l0, l1, o0, o1, a, b⟩ := r
  refine ⟨l0, l1, ?_, fun j hj => ⟨?_, ?_⟩⟩
  · have e0 : o0 = false := hr.o0
    have e1 : o1 = false := hr.o1
    have e2 : a = List.replicate 4 false := hr.a
    have e3 : b = List.replicate 4 false := hr.b
    rw [e0, e1, e2, e3]; rfl
  · have h := h2 j hj; rw [if_pos hj] at h; exact h
  · have h := h3 j hj; rw [if_pos hj] at h; exact h
/-- Of one super, a byte of whose sector rots on one device, both have it then. -/
theorem scrub_one (s : Sp) (hs : okP s = true ∧ s.v < 18446744073709551616) {q : Nat} (hq : q < 128) (b : UInt8) {bx a : Nat} (_ha : a < 2) :
    hl0 (gdS litS bx).f a ((rotL (oneL s) (placeP s) q b).getD a zeroS) ((oneL s).getD a zeroS) = (oneL s).getD a zeroS ∧ hl1 (gdS litS bx).f a ((rotL (oneL s) (placeP s) q b).getD a zeroS) ((oneL s).getD a zeroS) = (oneL s).getD a zeroS ∧
    hl0 (gdS litS bx).f a ((oneL s).getD a zeroS) ((rotL (oneL s) (placeP s) q b).getD a zeroS) = (oneL s).getD a zeroS ∧ hl1 (gdS litS bx).f a ((oneL s).getD a zeroS) ((rotL (oneL s) (placeP s) q b).getD a zeroS) = (oneL s).getD a zeroS := by
  have hp := place_lt s
  have hu : (rotL (oneL s) (placeP s) q b).getD a zeroS = if placeP s = a then rotS (secP litSumL s) q b else (oneL s).getD a zeroS := by
    rw [rotL, Su.set_getD (by rw [oneL_len]; omega)]
    split
    · rw [one_sec]
    · rfl
  obtain ⟨f, hf⟩ : ∃ f : Int → List UInt8 → Bool, f = (gdS litS bx).f := ⟨_, rfl⟩
  have hfy : ∀ y, f (a : Int) y = okS litSumL (a : Int) y := fun y => by rw [hf]; rfl
  rw [← hf, hu, oneL_at]
  clear hf hu
  by_cases hpa : placeP s = a
  · rw [if_pos hpa, if_pos hpa]
    have k1 : f (a : Int) (secP litSumL s) = true := by rw [hfy, ← hpa]; exact ok_sec hs.1 hs.2
    have k2 := sec_rot s hq b
    rw [hpa] at k2
    obtain ⟨u, hu⟩ : ∃ u, u = rotS (secP litSumL s) q b := ⟨_, rfl⟩
    obtain ⟨y, hy⟩ : ∃ y, y = secP litSumL s := ⟨_, rfl⟩
    rw [← hu, ← hy] at k2
    rw [← hu, ← hy]
    rw [← hy] at k1
    unfold hl0 hl1
    rcases k2 with k2 | k2
    · have k3 : f (a : Int) u = false := by rw [hfy]; exact k2
      simp [k1, k3]
    · subst k2; simp
  · rw [if_neg hpa, if_neg hpa]
    unfold hl0 hl1
    simp
end Go.Proofs.Ytnplhagfmfggcaa.Su
