import Derived.Test.YtllgaodnfoehkaaStream
import Derived.Test.YtllgaodnfoehkaaSame
namespace Go.Proofs.Ytllgaodnfoehkaa
open Go.RowKit
theorem quarter_as {a b c d : Int} (A B C D : UInt32) (w : World) (ha : a = A.toNat) (hb : b = B.toNat) (hc : c = C.toNat) (hd : d = D.toNat) :
    Calls Try.prog 13 #[.int .u32 a, .int .u32 b, .int .u32 c, .int .u32 d] w (RetQuart (qq A B C D) w) := by
  rw [ha, hb, hc, hd]; exact quarter_any A B C D w
theorem awake_quart : qq 0x11111111 0x01020304 0x9b8d6f43 0x01234567 = (0xea2a92f4, 0xcb1cf8ce, 0x4581472e, 0x5881c4bb) := by decide +kernel
theorem stream_four : streamL (List.replicate 32 0) 0 4 = [0x76, 0xb8, 0xe0, 0xad] := by decide +kernel
theorem nought_key : bva (List.replicate 32 0) = #[.int .u8 0, .int .u8 0, .int .u8 0, .int .u8 0, .int .u8 0, .int .u8 0, .int .u8 0, .int .u8 0, .int .u8 0, .int .u8 0, .int .u8 0, .int .u8 0, .int .u8 0, .int .u8 0, .int .u8 0, .int .u8 0, .int .u8 0, .int .u8 0, .int .u8 0, .int .u8 0, .int .u8 0, .int .u8 0, .int .u8 0, .int .u8 0, .int .u8 0, .int .u8 0, .int .u8 0, .int .u8 0, .int .u8 0, .int .u8 0, .int .u8 0, .int .u8 0] := rfl
theorem stream_nought (size : Int) (w : World) :
    Calls Try.prog 24 #[.agg #[.int .u8 0, .int .u8 0, .int .u8 0, .int .u8 0, .int .u8 0, .int .u8 0, .int .u8 0, .int .u8 0, .int .u8 0, .int .u8 0, .int .u8 0, .int .u8 0, .int .u8 0, .int .u8 0, .int .u8 0, .int .u8 0, .int .u8 0, .int .u8 0, .int .u8 0, .int .u8 0, .int .u8 0, .int .u8 0, .int .u8 0, .int .u8 0, .int .u8 0, .int .u8 0, .int .u8 0, .int .u8 0, .int .u8 0, .int .u8 0, .int .u8 0, .int .u8 0], .int .u64 0, .int .i64 size] w (RetRow 5 (bv (streamI (List.replicate 32 0) 0 size)) w) := by
  rw [← nought_key]; exact stream_any (List.replicate 32 0) rfl 0 size w
set_option maxHeartbeats 400000 in
theorem awake_any (w : World) : Calls Try.prog 12 #[] w (RetB (.bool true) w) := by
  go_enter Try.func12, Try.ntmps12
  go_wp2_with fail
  refine (quarter_as 0x11111111 0x01020304 0x9b8d6f43 0x01234567 _ rfl rfl rfl rfl).mono ?_
  rintro e w1 ⟨rfl, rfl⟩
  rw [awake_quart]
  go_wp2_with fail
  refine (stream_nought 4 _).mono ?_
  rintro e w2 ⟨A, n, c, rfl, ho, hb⟩
  rw [show streamI (List.replicate 32 0) 0 4 = [0x76, 0xb8, 0xe0, 0xad] from stream_four] at ho
  obtain rfl : 4 = n := own_blen ho
  obtain ⟨g, rfl, _, _, _⟩ := own_addr ho (by omega)
  have c0 : w2.cell? ⟨g, 0, none⟩ = some (.int .u8 118) := ho.cells (g := g) rfl 0 _ rfl
  have c3 : w2.cell? ⟨g, 3, none⟩ = some (.int .u8 173) := ho.cells (g := g) rfl 3 _ rfl
  clear ho
  go_wp2_with fail
  go_ret
  exact ⟨rfl, hb⟩
end Go.Proofs.Ytllgaodnfoehkaa
