/-
  The contract of bytes.Clone: a row of the same bytes in new memory.
-/
import Derived.Test.YtafnpgjioehnjaaPut
namespace Go.Proofs.Ytafnpgjioehnjaa
open Go.RowKit

set_option maxHeartbeats 800000 in
theorem clone_some {B : Nat} (ad : Addr) (n c : Nat) (l : List UInt8) (w : World) (hn : l.length = n) (hB : B ≤ w.heap.size) (ha : Rd B w (some ad) (bv l)) (hs : n ≤ 140737488355328) :
    Calls Try.prog 26 #[.slice (some ad) n c] w (RetRow 5 (bv l) w) := by
  have hnil := fun W => Lib.run_eql_slice_nil (P := Try.prog) W 23 5 (some ad) n c 0 0 Try.underlying23
  simp only [Option.isNone_some] at hnil
  have HN := Lib.hid hn
  clear hn
  go_enter Try.func26, Try.ntmps26
  go_wp2_with (at_builtin; refine wpList_app _ rfl (.tmp 5) (.tmp 6) _ rfl bytesElt (base := w.heap.size) (v := .slice (some ⟨w.heap.size, 0, none⟩) 0 0) rfl (World.ownsRow_lit w #[] 0 (Nat.le_refl _) (Nat.zero_le _) rfl) (m := n) rfl ((ha.more hB).below ((Below.refl _ _).alloc (Nat.le_refl _) _)) ((bv_length l).trans HN.out) (bv_one _) ?_ ?_ ?_; omega; (simp); intro A2 c2 w2 ho2 hg2 _; have hb2 := app_below ((Below.refl w.heap.size w).alloc (Nat.le_refl _) _) (World.ownsRow_lit w #[] 0 (Nat.le_refl _) (Nat.zero_le _) rfl) hg2 (Nat.le_refl _) (by simp))
  go_ret
  exact RetRow.mk rfl (own_eq ho2 (by omega) rfl) hb2

set_option maxHeartbeats 800000 in
theorem clone_none (n c : Nat) (w : World) :
    Calls Try.prog 26 #[.slice none n c] w fun e w' => e = .returned (.slice none 0 0) ∧ w = w' := by
  have hnil := fun W => Lib.run_eql_slice_nil (P := Try.prog) W 23 5 none n c 0 0 Try.underlying23
  simp only [Option.isNone_none] at hnil
  go_enter Try.func26, Try.ntmps26
  go_wp2_with fail
  go_ret
  exact ⟨rfl, rfl⟩

theorem clone_any {B : Nat} (A : Option Addr) (n c : Nat) (l : List UInt8) (w : World) (hn : l.length = n) (hB : B ≤ w.heap.size) (ha : Rd B w A (bv l)) (hs : n ≤ 140737488355328) :
    Calls Try.prog 26 #[.slice A n c] w (RetRow 5 (bv l) w) := by
  rcases A with _ | ad
  · have hl : l = [] := by
      rcases l with _ | ⟨x, l⟩
      · rfl
      · obtain ⟨_, h, _⟩ := ha.at_ (k := 0) (by simp)
        cases h
    subst hl
    refine (clone_none n c w).mono ?_
    rintro e w' ⟨rfl, rfl⟩
    exact RetRow.mk rfl (World.ownsRow_nil _ _ _ _) (Below.refl _ _)
  · exact clone_some ad n c l w hn hB ha hs
end Go.Proofs.Ytafnpgjioehnjaa
