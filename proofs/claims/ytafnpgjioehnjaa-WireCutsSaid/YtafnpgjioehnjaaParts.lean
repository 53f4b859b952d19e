/-
  The contract of Parts of package wire: the parts whose frame a row of bytes is, each in new memory.
-/
import Derived.Test.YtafnpgjioehnjaaCut
import Derived.Test.YtafnpgjioehnjaaClone
namespace Go.Proofs.Ytafnpgjioehnjaa
open Go.RowKit

/-! ### The parts of a row of bytes, by definition. -/
def sizeAt (l : List UInt8) : Nat := getL (l.take 2)
def badAt (l : List UInt8) : Prop := l.length < 2 ∨ l.length - 2 < sizeAt l
theorem badAt_not {l : List UInt8} (h : ¬ badAt l) : 2 ≤ l.length ∧ sizeAt l ≤ l.length - 2 := by
  unfold badAt at h; omega
open Classical in
noncomputable def partsF : Nat → List UInt8 → Option (List (List UInt8))
  | 0, l => if l = [] then some [] else none
  | f + 1, l => if l = [] then some [] else if badAt l then none else (partsF f (l.drop (2 + sizeAt l))).map fun r => (l.drop 2).take (sizeAt l) :: r
noncomputable def partsL (l : List UInt8) : Option (List (List UInt8)) := partsF l.length l
theorem partsF_nil (f : Nat) : partsF f [] = some [] := by cases f <;> simp [partsF]
theorem partsF_fuel : ∀ (f g : Nat) (l : List UInt8), l.length ≤ f → l.length ≤ g → partsF f l = partsF g l
  | 0, g, l, h, _ => by
    have hl : l = [] := List.eq_nil_of_length_eq_zero (by omega)
    subst hl
    rw [partsF_nil, partsF_nil]
  | f + 1, 0, l, _, h => by
    have hl : l = [] := List.eq_nil_of_length_eq_zero (by omega)
    subst hl
    rw [partsF_nil, partsF_nil]
  | f + 1, g + 1, l, h, h' => by
    unfold partsF
    by_cases hl : l = []
    · rw [if_pos hl, if_pos hl]
    · by_cases hb : badAt l
      · rw [if_neg hl, if_neg hl, if_pos hb, if_pos hb]
      · have hl0 : 0 < l.length := List.length_pos_iff.2 hl
        rw [if_neg hl, if_neg hl, if_neg hb, if_neg hb, partsF_fuel f g _ (by rw [List.length_drop]; omega) (by rw [List.length_drop]; omega)]
theorem partsL_nil : partsL [] = some [] := partsF_nil _
theorem partsL_bad {l : List UInt8} (h0 : 0 < l.length) (h : badAt l) : partsL l = none := by
  have hl : l ≠ [] := List.ne_nil_of_length_pos h0
  unfold partsL
  obtain ⟨f, hf⟩ : ∃ f, l.length = f + 1 := ⟨l.length - 1, by omega⟩
  rw [hf]
  unfold partsF
  rw [if_neg hl, if_pos h]
theorem partsL_step {l : List UInt8} (h : ¬ badAt l) : partsL l = (partsL (l.drop (2 + sizeAt l))).map fun r => (l.drop 2).take (sizeAt l) :: r := by
  have h2 := badAt_not h
  have hl : l ≠ [] := List.ne_nil_of_length_pos (by omega)
  unfold partsL
  obtain ⟨f, hf⟩ : ∃ f, l.length = f + 1 := ⟨l.length - 1, by omega⟩
  rw [hf]
  conv => lhs; unfold partsF
  rw [if_neg hl, if_neg h, partsF_fuel f _ _ (by rw [List.length_drop]; omega) (Nat.le_refl _)]

/-! ### Rows that the call owns, each of bytes. -/
def OwnB (e : TypeId) (w : World) (base : Nat) (v : Value) (l : List UInt8) : Prop := ∃ A c, v = .slice A l.length c ∧ w.ownsRow base e 1 v l.length (bv l)
def OwnLs (e : TypeId) (w : World) (base : Nat) (vs : List Value) (ls : List (List UInt8)) : Prop := vs.length = ls.length ∧ ∀ (k : Nat) (v : Value) (l : List UInt8), vs[k]? = some v → ls[k]? = some l → OwnB e w base v l
theorem own_ne {w : World} {b b' n n' : Nat} {e e' : TypeId} {v v' : Value} {xs xs' : List Value} (h : w.ownsRow b e 1 v n xs) (h' : w.ownsRow b' e' 1 v' n' xs') (hne : e ≠ e') : v.ownBlock = none ∨ v.ownBlock ≠ v'.ownBlock := by
  rcases h.2 with ⟨rfl, _⟩ | ⟨g, cap, cur, rfl, _, hg, _⟩
  · exact .inl rfl
  · rcases h'.2 with ⟨rfl, _⟩ | ⟨g', cap', cur', rfl, _, hg', _⟩
    · exact .inr (by simp [Value.ownBlock])
    · refine .inr fun he => ?_
      have : g = g' := by simpa [Value.ownBlock] using he
      subst this
      rw [hg] at hg'
      injection hg' with hg'
      injection hg' with _ ht
      exact hne ht
section
variable {e : TypeId} {w w' : World} {base : Nat} {vs : List Value} {ls : List (List UInt8)}
theorem OwnLs.nil : OwnLs e w base [] [] := ⟨rfl, fun _ _ _ h => by simp at h⟩
theorem OwnLs.snoc {A : Option Addr} {n c : Nat} {l : List UInt8} (h : OwnLs e w base vs ls) (hv : w.ownsRow base e 1 (.slice A n c) n (bv l)) : OwnLs e w base (vs ++ [.slice A n c]) (ls ++ [l]) := by
  refine ⟨by simp [h.1], fun k v l' hk hl => ?_⟩
  rcases Nat.lt_trichotomy k vs.length with hlt | rfl | hgt
  · rw [List.getElem?_append_left hlt] at hk
    rw [List.getElem?_append_left (by have := h.1; omega)] at hl
    exact h.2 k v l' hk hl
  · rw [List.getElem?_append_right (Nat.le_refl _), Nat.sub_self] at hk
    rw [h.1, List.getElem?_append_right (Nat.le_refl _), Nat.sub_self] at hl
    injection hk with hk; injection hl with hl
    subst hk; subst hl
    have hn := own_blen hv
    exact ⟨A, c, by rw [hn], by rw [hn]; exact hv⟩
  · rw [List.getElem?_eq_none (by simp; omega)] at hk
    cases hk
theorem OwnLs.below (h : OwnLs e w base vs ls) (hb : Below w.heap.size w w') : OwnLs e w' base vs ls :=
  ⟨h.1, fun k v l hk hl => by obtain ⟨A, c, e1, ho⟩ := h.2 k v l hk hl; exact ⟨A, c, e1, own_below ho hb⟩⟩
theorem OwnLs.alloc (h : OwnLs e w base vs ls) (o : Obj) : OwnLs e (w.alloc o) base vs ls := h.below ((Below.refl _ _).alloc (Nat.le_refl _) _)
theorem OwnLs.more {b : Nat} (h : OwnLs e w base vs ls) (hb : b ≤ base) : OwnLs e w b vs ls :=
  ⟨h.1, fun k v l hk hl => by obtain ⟨A, c, e1, ho⟩ := h.2 k v l hk hl; exact ⟨A, c, e1, own_more ho hb⟩⟩
theorem OwnLs.kept {t : TypeId} {b n : Nat} {u : Value} {xs : List Value} (h : OwnLs e w base vs ls) (hu : w.ownsRow b t 1 u n xs) (hg : w.grownBy w' u.ownBlock) (hne : e ≠ t) : OwnLs e w' base vs ls :=
  ⟨h.1, fun k v l hk hl => by obtain ⟨A, c, e1, ho⟩ := h.2 k v l hk hl; exact ⟨A, c, e1, ho.kept hg (own_ne ho hu hne)⟩⟩
theorem OwnLs.rdb {t : TypeId} {b n c : Nat} {A : Option Addr} (h : OwnLs e w base vs ls) (hu : w.ownsRow b t 1 (.slice A n c) n vs) : ls.length = n ∧ RdB w.heap.size w A ls := by
  have hn := own_len hu
  refine ⟨by rw [← hn, h.1], vs, h.1, Rd.own hu, fun k v l hk hl => ?_⟩
  obtain ⟨A', c', rfl, ho⟩ := h.2 k v l hk hl
  exact IsB.own ho
end

/-- The length that stands in a slice. -/
def lenIn : Value → Nat
  | .slice _ n _ => n
  | _ => 0
/-- What Parts tells. -/
def RetParts (t e : TypeId) (r : Option (List (List UInt8))) (w : World) (x : Ending) (w' : World) : Prop :=
  Below w.heap.size w w' ∧ match r with
    | none => x = .returned (.tuple #[.slice none 0 0, .bool false])
    | some ls => ∃ A c vs, x = .returned (.tuple #[.slice A ls.length c, .bool true]) ∧ w'.ownsRow w.heap.size t 1 (.slice A ls.length c) ls.length vs ∧ OwnLs e w' w.heap.size vs ls
theorem rowsElt : Elt Try.prog 31 23 (.slice none 0 0) 24 := ⟨Try.underlying31, by kernel_rfl, rfl, by omega⟩
theorem parts_more {l rest : List UInt8} {ls : List (List UInt8)} (h : partsL l = (partsL rest).map (ls ++ ·)) (hb : ¬ badAt rest) : partsL l = (partsL (rest.drop (2 + sizeAt rest))).map ((ls ++ [(rest.drop 2).take (sizeAt rest)]) ++ ·) := by
  rw [h, partsL_step hb, Option.map_map]
  congr 1
  funext r
  simp
theorem parts_none {l rest : List UInt8} {ls : List (List UInt8)} (h : partsL l = (partsL rest).map (ls ++ ·)) (h0 : 0 < rest.length) (hb : badAt rest) : partsL l = none := by rw [h, partsL_bad h0 hb]; rfl
theorem parts_done {l rest : List UInt8} {ls : List (List UInt8)} (h : partsL l = (partsL rest).map (ls ++ ·)) (h0 : ¬ 0 < rest.length) : partsL l = some ls := by
  have hl : rest = [] := List.eq_nil_of_length_eq_zero (by omega)
  rw [h, hl, partsL_nil]; simp
theorem RetParts.none_ {t e : TypeId} {r : Option (List (List UInt8))} {w w' : World} {x : Ending} (hr : r = none) (hx : x = .returned (.tuple #[.slice none 0 0, .bool false])) (hb : Below w.heap.size w w') : RetParts t e r w x w' := by
  subst hr; exact ⟨hb, hx⟩
theorem RetParts.some_ {t e : TypeId} {r : Option (List (List UInt8))} {w w' : World} {x : Ending} {ls : List (List UInt8)} {A : Option Addr} {c : Nat} {vs : List Value} (hr : r = some ls) (hx : x = .returned (.tuple #[.slice A ls.length c, .bool true])) (hb : Below w.heap.size w w')
    (ho : w'.ownsRow w.heap.size t 1 (.slice A ls.length c) ls.length vs) (hl : OwnLs e w' w.heap.size vs ls) : RetParts t e r w x w' := by
  subst hr; exact ⟨hb, A, c, vs, hx, ho, hl⟩

set_option maxHeartbeats 800000 in
theorem wparts_any (A : Option Addr) (n c : Nat) (l : List UInt8) (w : World) (hn : l.length = n) (hnc : n ≤ c) (hcm : c ≤ maxLen) (ha : Rd w.heap.size w A (bv l)) (hs : n ≤ 1099511627776) :
    Calls Try.prog 19 #[.slice A n c] w (RetParts 23 5 (partsL l) w) := by
  subst hn
  go_enter Try.func19, Try.ntmps19
  go_wp2_with fail
  go_loopw [0, 4] (fun b o wr => ∃ (A1 : Option Addr) (c1 : Nat) (rest : List UInt8) (A4 : Option Addr) (c4 : Nat) (vs : List Value) (ls : List (List UInt8)), b = .slice A1 rest.length c1 ∧ o = .slice A4 ls.length c4 ∧ rest.length ≤ c1 ∧ c1 ≤ maxLen ∧ ls.length + rest.length ≤ l.length ∧
    Hid (partsL l = (partsL rest).map (ls ++ ·)) ∧ Below w.heap.size w wr ∧ Rd w.heap.size wr A1 (bv rest) ∧ wr.ownsRow w.heap.size 23 1 (.slice A4 ls.length c4) ls.length vs ∧ OwnLs 5 wr w.heap.size vs ls) (fun b _ _ => lenIn b)
  case atStart => exact ⟨A, c, l, none, 0, [], [], rfl, rfl, hnc, hcm, by simp, by show _ = _; cases partsL l <;> rfl, Below.refl _ _, ha, World.ownsRow_nil _ _ _ _, OwnLs.nil⟩
  case round =>
    obtain ⟨A1, c1, rest, A4, c4, vs, ls, rfl, rfl, hr1, hr2, hr3, HP, hb, har, hor, hols⟩ := hrel
    by_cases hlt : 0 < rest.length
    · by_cases hbad : badAt rest
      · have hlt' : (0 : Int) < (rest.length : Int) := by omega
        go_wp2_with fail
        refine (cut_no A1 c1 rest wr hr1 hr2 hbad har).mono ?_
        rintro e w2 ⟨rfl, q, rfl⟩
        go_wp2_with fail
        go_ret2
        exact RetParts.none_ (parts_none HP.out hlt hbad) rfl (below_drewN' hb q)
      · have hlt' : (0 : Int) < (rest.length : Int) := by omega
        have hnb := badAt_not hbad
        go_wp2_with fail
        refine (cut_yes A1 c1 rest wr (sizeAt rest) hnb.1 hr1 hr2 rfl hnb.2 har).mono ?_
        rintro e w2 ⟨A5, c5, A6, c6, rfl, h51, h52, h61, h62, r5, r6, q, rfl⟩
        have hbv := below_drewN' hb q
        have hor' := own_drewN hor q
        have hols' : OwnLs 5 (wr.drewN q) w.heap.size vs ls := hols
        have r5' : Rd w.heap.size (wr.drewN q) A5 (bv ((rest.drop 2).take (sizeAt rest))) := r5
        have r6' : Rd w.heap.size (wr.drewN q) A6 (bv (rest.drop (2 + sizeAt rest))) := r6
        clear hb hor hols r5 r6 har
        generalize wr.drewN q = v at *
        go_wp2_with fail
        refine (clone_any (B := w.heap.size) A5 _ c5 ((rest.drop 2).take (sizeAt rest)) _ (by simp; omega) hbv.size r5' (by omega)).mono ?_
        rintro e w3 ⟨A7, n7, c7, rfl, ho7, hb7⟩
        have hb3 := hbv.trans (hb7.mono hbv.size)
        have hor3 := own_below hor' hb7
        have hols3 := hols'.below hb7
        have r63 := r6'.below (hb7.mono hbv.size)
        have ho73 := own_more ho7 hbv.size
        have hs3 := hb3.size
        clear hor' hols' r6' r5' ho7 hb7
        go_wp2_with (at_builtin; refine wpList_app _ rfl (.tmp 19) (.tmp 22) _ rfl rowsElt (base := w.heap.size) (v := .slice A4 ls.length c4) rfl (hor3.alloc _) (m := 1) rfl (Rd.lit w3 23 [.slice A7 n7 c7]) rfl ?_ ?_ ?_ ?_; (intro u hu; simp at hu; subst hu; rfl); omega; (simp; omega); intro A8 c8 w8 ho8 hg8 _)
        have hb8 := app_below (hb3.alloc hs3 _) (hor3.alloc _) hg8 (Nat.le_refl _) (hb3.alloc hs3 _).size
        have b38 := app_below ((Below.refl w.heap.size w3).alloc hs3 _) (hor3.alloc _) hg8 (Nat.le_refl _) (hb3.alloc hs3 _).size
        have hols8 := ((hols3.alloc _).kept (hor3.alloc _) hg8 (by decide)).snoc ((ho73.alloc _).kept hg8 (own_ne ho73 hor3 (by decide)))
        go_roundw
        case rel =>
          have hdl : (rest.drop (2 + sizeAt rest)).length = rest.length - 2 - sizeAt rest := by rw [List.length_drop]; omega
          have hll : (ls ++ [(rest.drop 2).take (sizeAt rest)]).length = ls.length + 1 := by simp
          exact ⟨A6, c6, rest.drop (2 + sizeAt rest), A8, c8, _, ls ++ [(rest.drop 2).take (sizeAt rest)], slice_eq hdl.symm, slice_eq hll.symm, by rw [hdl]; exact h61, h62, by rw [hdl, hll]; omega, parts_more HP.out hbad, hb8, r63.below b38, own_eq ho8 hll.symm rfl, hols8⟩
        case measure => simp [lenIn]; omega
    · go_wp2_with fail
      go_ret2
      exact RetParts.some_ (parts_done HP.out hlt) rfl hb hor hols
end Go.Proofs.Ytafnpgjioehnjaa
