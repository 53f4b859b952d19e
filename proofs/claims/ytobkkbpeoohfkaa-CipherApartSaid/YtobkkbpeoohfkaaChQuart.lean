/-
  The contracts of the turns and of the two quarter rounds.
-/
import Derived.Test.YtobkkbpeoohfkaaRows
import Derived.Test.YtobkkbpeoohfkaaU32
namespace Go.Proofs.Ytobkkbpeoohfkaa
open Go.RowKit

theorem rott_any (x : Int) (n : Int) (X : UInt32) (m : Nat) (w : World) (hx : x = (X.toNat : Int)) (hn : n = (m : Int)) (h0 : 0 < m) (h1 : m < 32) :
    Calls Try.prog 59 #[.int .u32 x, .int .i64 n] w (fun e w' => e = .returned (.int .u32 (rotl X m).toNat) ∧ w = w') := by
  subst hx
  subst hn
  have b0 : (0 : Int) ≤ (X.toNat : Int) := by omega
  have b1 : (X.toNat : Int) ≤ 4294967295 := by have := X.toNat_lt; omega
  have c0 : (0 : Int) ≤ 32 - (m : Int) := by omega
  have c1 : (32 : Int) - (m : Int) < 32 := by omega
  have HR := Lib.hid (w_rotl X h0 h1)
  go_enter Try.func59, Try.ntmps59
  go_wp2
  go_ret
  refine ⟨ret_int ?_, rfl⟩
  exact HR.out
theorem crot_any (x : Int) (n : Int) (X : UInt32) (m : Nat) (w : World) (hx : x = (X.toNat : Int)) (hn : n = (m : Int)) (h0 : 0 < m) (h1 : m < 32) :
    Calls Try.prog 67 #[.int .u32 x, .int .i64 n] w (fun e w' => e = .returned (.int .u32 (rotl X m).toNat) ∧ w = w') := by
  subst hx
  subst hn
  have b0 : (0 : Int) ≤ (X.toNat : Int) := by omega
  have b1 : (X.toNat : Int) ≤ 4294967295 := by have := X.toNat_lt; omega
  have HR := Lib.hid (w_rotl X h0 h1)
  have HA : bits BinOp.and IntKind.u64 (m : Int) 31 = (m : Int) := by
    have := u64_and_nat m 31 (by omega) (by decide)
    rw [show ((31 : Int)) = ((31 : Nat) : Int) from rfl, this]
    congr 1
    rw [show (31 : Nat) = 2 ^ 5 - 1 from rfl, Nat.and_two_pow_sub_one_eq_mod]; omega
  go_enter Try.func67, Try.ntmps67
  go_wp2
  go_ret
  exact ⟨ret_int HR.out, rfl⟩

theorem tup_eq {a b c d a' b' c' d' : Int} (h1 : a = a') (h2 : b = b') (h3 : c = c') (h4 : d = d') :
    Ending.returned (.tuple #[.int .u32 a, .int .u32 b, .int .u32 c, .int .u32 d]) = .returned (.tuple #[.int .u32 a', .int .u32 b', .int .u32 c', .int .u32 d']) := by rw [h1, h2, h3, h4]

/-- A quarter round's four numbers, handed back. -/
def RetQuart (q : UInt32 × UInt32 × UInt32 × UInt32) (w : World) (e : Ending) (w' : World) : Prop :=
  e = .returned (.tuple #[.int .u32 q.1.toNat, .int .u32 q.2.1.toNat, .int .u32 q.2.2.1.toNat, .int .u32 q.2.2.2.toNat]) ∧ w = w'

set_option maxHeartbeats 400000 in
theorem quarter_any (a b c d : UInt32) (w : World) :
    Calls Try.prog 58 #[.int .u32 a.toNat, .int .u32 b.toNat, .int .u32 c.toNat, .int .u32 d.toNat] w (RetQuart (qq a b c d) w) := by
  go_enter Try.func58, Try.ntmps58
  go_wp2_with fail
  refine (crot_any _ _ (d ^^^ (a + b)) 16 _ (by simp only [w_add, w_xor]) (by rfl) (by decide) (by decide)).mono ?_
  rintro e w' ⟨rfl, rfl⟩
  go_wp2_with fail
  refine (crot_any _ _ (b ^^^ (c + rotl (d ^^^ (a + b)) 16)) 12 _ (by simp only [w_add, w_xor]) (by rfl) (by decide) (by decide)).mono ?_
  rintro e w' ⟨rfl, rfl⟩
  go_wp2_with fail
  refine (crot_any _ _ (rotl (d ^^^ (a + b)) 16 ^^^ (a + b + rotl (b ^^^ (c + rotl (d ^^^ (a + b)) 16)) 12)) 8 _ (by simp only [w_xor, w_add3]) (by rfl) (by decide) (by decide)).mono ?_
  rintro e w' ⟨rfl, rfl⟩
  go_wp2_with fail
  refine (crot_any _ _ _ 7 _ (by simp only [w_add3, w_xor]; rfl) (by rfl) (by decide) (by decide)).mono ?_
  rintro e w' ⟨rfl, rfl⟩
  go_wp2_with fail
  refine bodyPost_ret (v := .tuple #[_, _, _, _]) (by simp [results, Try.results58, go_sem]; exact ⟨rfl, rfl, rfl, rfl⟩) rfl ⟨?_, rfl⟩
  exact tup_eq (by simp only [w_add3]; rfl) (by rfl) (by simp only [w_add3]; rfl) (by rfl)
set_option maxHeartbeats 400000 in
theorem rquarter_any (a b c d : UInt32) (w : World) :
    Calls Try.prog 49 #[.int .u32 a.toNat, .int .u32 b.toNat, .int .u32 c.toNat, .int .u32 d.toNat] w (RetQuart (qq a b c d) w) := by
  go_enter Try.func49, Try.ntmps49
  go_wp2_with fail
  refine (rott_any _ _ (d ^^^ (a + b)) 16 _ (by simp only [w_add, w_xor]) (by rfl) (by decide) (by decide)).mono ?_
  rintro e w' ⟨rfl, rfl⟩
  go_wp2_with fail
  refine (rott_any _ _ (b ^^^ (c + rotl (d ^^^ (a + b)) 16)) 12 _ (by simp only [w_add, w_xor]) (by rfl) (by decide) (by decide)).mono ?_
  rintro e w' ⟨rfl, rfl⟩
  go_wp2_with fail
  refine (rott_any _ _ (rotl (d ^^^ (a + b)) 16 ^^^ (a + b + rotl (b ^^^ (c + rotl (d ^^^ (a + b)) 16)) 12)) 8 _ (by simp only [w_xor, w_add3]) (by rfl) (by decide) (by decide)).mono ?_
  rintro e w' ⟨rfl, rfl⟩
  go_wp2_with fail
  refine (rott_any _ _ _ 7 _ (by simp only [w_add3, w_xor]; rfl) (by rfl) (by decide) (by decide)).mono ?_
  rintro e w' ⟨rfl, rfl⟩
  go_wp2_with fail
  refine bodyPost_ret (v := .tuple #[_, _, _, _]) (by simp [results, Try.results49, go_sem]; exact ⟨rfl, rfl, rfl, rfl⟩) rfl ⟨?_, rfl⟩
  exact tup_eq (by simp only [w_add3]; rfl) (by rfl) (by simp only [w_add3]; rfl) (by rfl)

end Go.Proofs.Ytobkkbpeoohfkaa
