/-
  What Parts tells of a frame, by cases; the frame of parts is theirs.
-/
import Derived.Test.YtafnpgjioehnjaaRParts
import Derived.Test.YtafnpgjioehnjaaFrame
namespace Go.Proofs.Ytafnpgjioehnjaa
open Go.RowKit

/-- It returns the rows ls, each in new memory, and true. -/
def RetSome (t e : TypeId) (ls : List (List UInt8)) (w : World) (x : Ending) (w' : World) : Prop :=
  ∃ A c vs, x = .returned (.tuple #[.slice A ls.length c, .bool true]) ∧ w'.ownsRow w.heap.size t 1 (.slice A ls.length c) ls.length vs ∧ OwnLs e w' w.heap.size vs ls ∧ Below w.heap.size w w'
theorem RetParts.of_some {t e : TypeId} {ls : List (List UInt8)} {r : Option (List (List UInt8))} (hr : r = some ls) {w : World} {x : Ending} {w' : World} (h : RetParts t e r w x w') : RetSome t e ls w x w' := by
  subst hr
  obtain ⟨hb, A, c, vs, h1, h2, h3⟩ := h
  exact ⟨A, c, vs, h1, h2, h3, hb⟩
theorem RetParts.of_none {t e : TypeId} {r : Option (List (List UInt8))} (hr : r = none) {w : World} {x : Ending} {w' : World} (h : RetParts t e r w x w') : x = .returned (.tuple #[.slice none 0 0, .bool false]) ∧ Below w.heap.size w w' := by
  subst hr
  exact ⟨h.2, h.1⟩
theorem wparts_some {A : Option Addr} {n c : Nat} {l : List UInt8} {ls : List (List UInt8)} {w : World} (hp : partsL l = some ls) (hn : l.length = n) (hnc : n ≤ c) (hcm : c ≤ maxLen) (ha : Rd w.heap.size w A (bv l)) (hs : n ≤ 1099511627776) :
    Calls Try.prog 19 #[.slice A n c] w (RetSome 23 5 ls w) := (wparts_any A n c l w hn hnc hcm ha hs).mono fun _ _ h => h.of_some hp
theorem rparts_some {A : Option Addr} {n c : Nat} {l : List UInt8} {ls : List (List UInt8)} {w : World} (hp : partsL l = some ls) (hn : l.length = n) (hnc : n ≤ c) (hcm : c ≤ maxLen) (ha : Rd w.heap.size w A (bv l)) (hs : n ≤ 1099511627776) :
    Calls Try.prog 20 #[.slice A n c] w (RetSome 23 5 ls w) := (rparts_any A n c l w hn hnc hcm ha hs).mono fun _ _ h => h.of_some hp
theorem wparts_none {A : Option Addr} {n c : Nat} {l : List UInt8} {w : World} (hp : partsL l = none) (hn : l.length = n) (hnc : n ≤ c) (hcm : c ≤ maxLen) (ha : Rd w.heap.size w A (bv l)) (hs : n ≤ 1099511627776) :
    Calls Try.prog 19 #[.slice A n c] w (fun x w' => x = .returned (.tuple #[.slice none 0 0, .bool false]) ∧ Below w.heap.size w w') := (wparts_any A n c l w hn hnc hcm ha hs).mono fun _ _ h => h.of_none hp
theorem rparts_none {A : Option Addr} {n c : Nat} {l : List UInt8} {w : World} (hp : partsL l = none) (hn : l.length = n) (hnc : n ≤ c) (hcm : c ≤ maxLen) (ha : Rd w.heap.size w A (bv l)) (hs : n ≤ 1099511627776) :
    Calls Try.prog 20 #[.slice A n c] w (fun x w' => x = .returned (.tuple #[.slice none 0 0, .bool false]) ∧ Below w.heap.size w w') := (rparts_any A n c l w hn hnc hcm ha hs).mono fun _ _ h => h.of_none hp

/-- A frame begins with its first part. -/
theorem size_frame {l r : List UInt8} (h : l.length ≤ 65535) : sizeAt (putL l.length 2 ++ l ++ r) = l.length := by
  have e : (putL l.length 2 ++ l ++ r).take 2 = putL l.length 2 := by
    rw [List.append_assoc, List.take_left' (putL_length _ _)]
  have e2 : putL l.length 2 = [UInt8.ofNat (l.length / 256 % 256), UInt8.ofNat (l.length % 256)] := by simp [putL, List.range_succ]
  rw [sizeAt, e, e2]
  simp [getL]
  omega
theorem parts_cons {l r : List UInt8} (h : l.length ≤ 65535) : partsL (putL l.length 2 ++ l ++ r) = (partsL r).map (l :: ·) := by
  have hs := size_frame (r := r) h
  have hb : ¬ badAt (putL l.length 2 ++ l ++ r) := by
    unfold badAt; rw [hs]; simp [putL_length]
  have e1 : (putL l.length 2 ++ l ++ r).drop (2 + l.length) = r := by
    rw [List.drop_left' (by rw [List.length_append, putL_length])]
  have e2 : ((putL l.length 2 ++ l ++ r).drop 2).take l.length = l := by
    rw [List.append_assoc, List.drop_left' (putL_length _ _), List.take_left' rfl]
  rw [partsL_step hb, hs, e1, e2]
theorem parts_join : ∀ (ls : List (List UInt8)) (r : List UInt8), (∀ l ∈ ls, l.length ≤ 65535) → partsL (frameL ls ++ r) = (partsL r).map (ls ++ ·)
  | [], r, _ => by
    show partsL r = _
    cases partsL r <;> rfl
  | l :: ls, r, h => by
    have e : frameL (l :: ls) ++ r = putL l.length 2 ++ l ++ (frameL ls ++ r) := by simp [frameL]
    rw [e, parts_cons (h l (by simp)), parts_join ls r (fun x hx => h x (by simp [hx])), Option.map_map]
    rfl
theorem parts_frame {ls : List (List UInt8)} (h : ∀ l ∈ ls, l.length ≤ 65535) : partsL (frameL ls) = some ls := by
  have h1 := parts_join ls [] h
  rw [List.append_nil, partsL_nil] at h1
  rw [h1]; simp
theorem frame_size {ls : List (List UInt8)} {M : Nat} (h : ∀ l ∈ ls, l.length ≤ M) : (frameL ls).length ≤ ls.length * (M + 2) := by
  induction ls with
  | nil => simp [frameL]
  | cons l ls ih =>
    have h1 := ih (fun x hx => h x (by simp [hx]))
    have h2 := h l (by simp)
    have e : frameL (l :: ls) = putL l.length 2 ++ l ++ frameL ls := by simp [frameL]
    rw [e, List.length_append, List.length_append, putL_length, List.length_cons, Nat.add_mul]
    omega
theorem own_cap {w : World} {base n c : Nat} {e : TypeId} {A : Option Addr} {xs : List Value} (h : w.ownsRow base e 1 (.slice A n c) n xs) : n ≤ c ∧ c ≤ maxLen := by
  rcases h.2 with ⟨h0, h1⟩ | ⟨_, cap, _, h0, _, _, h1, h2, _⟩
  · injection h0 with _ _ h0
    rw [h0, h1]; unfold maxLen; omega
  · injection h0 with _ _ h0
    omega
end Go.Proofs.Ytafnpgjioehnjaa
