/-
  The document's example comes out true.
-/
import Derived.Test.YtmokigcplgjgiaaSgBase
namespace Go.Proofs.Ytmokigcplgjgiaa.Sg
open Go.RowKit
attribute [local go_sem ↓] Go.wp_at_zero Go.wp_at_succ
theorem lit_check (w : World) : Calls Try.prog 14 #[.agg #[.int .i64 4, .int .i64 3]] w (RetB (.int .i64 0) w) := check_yes 4 3 (by decide) w
theorem lit_sectors (w : World) : Calls Try.prog 15 #[.agg #[.int .i64 4, .int .i64 3]] w (RetB (.int .i64 14) w) := sectors_yes 4 3 (by decide) w
theorem lit_most (w : World) : Calls Try.prog 16 #[.agg #[.int .i64 4, .int .i64 3]] w (RetB (.int .i64 6) w) := most_yes 4 3 (by decide) w
theorem lit_sector (w : World) : Calls Try.prog 17 #[.agg #[.int .i64 4, .int .i64 3], .int .i64 1, .int .i64 2] w (RetB (.tuple #[.int .i64 7, .bool true]) w) := sector_yes 4 3 1 2 (by decide) w
set_option maxRecDepth 100000 in
theorem awake_any (w : World) : Calls Try.prog 12 #[] w (RetB (.bool true) w) := by
  have b1 : Blk (w.alloc (.cells #[.int .i64 4, .int .i64 3] 23)) w.heap.size #[.int .i64 4, .int .i64 3] 23 := heap_alloc_new _ _
  have bb : Below w.heap.size w (w.alloc (.cells #[.int .i64 4, .int .i64 3] 23)) := (Below.refl _ _).alloc (Nat.le_refl _) _
  have B1 := Lib.hid b1
  have BB := Lib.hid bb
  clear b1 bb
  go_enter Try.func12, Try.ntmps12
  go_wp2_with fail
  refine (lit_sector _).mono ?_
  rintro e w2 ⟨rfl, bw⟩
  have B1' := Lib.hid (B1.out.below bw)
  have BB' := Lib.hid (BB.out.trans (bw.mono BB.out.size))
  clear B1 BB bw
  have B1 := Lib.hid B1'.out
  have BB := Lib.hid BB'.out
  clear B1' BB'
  have c0 := B1.out.cell 0
  have c1 := B1.out.cell 1
  go_wp2_with fail
  clear c0 c1
  refine (lit_check _).mono ?_
  rintro e w3 ⟨rfl, bw⟩
  have B1' := Lib.hid (B1.out.below bw)
  have BB' := Lib.hid (BB.out.trans (bw.mono BB.out.size))
  clear B1 BB bw
  have B1 := Lib.hid B1'.out
  have BB := Lib.hid BB'.out
  clear B1' BB'
  have c0 := B1.out.cell 0
  have c1 := B1.out.cell 1
  go_wp2_with fail
  clear c0 c1
  refine (lit_sectors _).mono ?_
  rintro e w4 ⟨rfl, bw⟩
  have B1' := Lib.hid (B1.out.below bw)
  have BB' := Lib.hid (BB.out.trans (bw.mono BB.out.size))
  clear B1 BB bw
  have B1 := Lib.hid B1'.out
  have BB := Lib.hid BB'.out
  clear B1' BB'
  have c0 := B1.out.cell 0
  have c1 := B1.out.cell 1
  go_wp2_with fail
  clear c0 c1
  refine (lit_most _).mono ?_
  rintro e w5 ⟨rfl, bw⟩
  have B1' := Lib.hid (B1.out.below bw)
  have BB' := Lib.hid (BB.out.trans (bw.mono BB.out.size))
  clear B1 BB bw
  have B1 := Lib.hid B1'.out
  have BB := Lib.hid BB'.out
  clear B1' BB'
  have c0 := B1.out.cell 0
  have c1 := B1.out.cell 1
  go_wp2_with fail
  clear c0 c1
  go_ret
  exact ⟨rfl, BB.out⟩
end Go.Proofs.Ytmokigcplgjgiaa.Sg
