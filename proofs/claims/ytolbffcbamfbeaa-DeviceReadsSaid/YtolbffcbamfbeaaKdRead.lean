/-
  The contract of the reference's Read.
-/
import Derived.Test.YtolbffcbamfbeaaKdRef
namespace Go.Proofs.Ytolbffcbamfbeaa.Kd
open Go.RowKit
attribute [local go_sem ↓] Go.wp_at_zero Go.wp_at_succ
theorem results_ct8 {P : Program} {fn : Func} {p u : Tmp} {ty : TypeId} (h : fn.results = #[.cell p ty, .tmp u]) (tmps : Array Value) (w : World) (g : Nat) (t : TypeId) (cs : Array Value) (d : TypeDesc)
    (hp : tmps.getD p undef = .pointer (some ⟨g, 0, none⟩)) (hg : Blk w g cs t)
    (hu : P.underlying ty = some d) (hd : (match d with | .struct _ | .array _ _ => true | _ => false) = true) (hi : (P.info? ty).map (·.size) = some cs.size) :
    (results fn tmps).run P w = .ok (.tuple #[.agg cs, tmps.getD u undef]) w := by
  have hp' : tmps[p]?.getD undef = .pointer (some ⟨g, 0, none⟩) := by simpa using hp
  simp [results, h, hp', asAddr, run_loadVar_row w g t ty cs (0, 0) d hg hu hd hi]
/-- What Read tells. -/
def readV (P : Pw) (d : Dv) (i : Int) : Value := .tuple #[.agg (bva (if refuseN P d i = 0 then d.now i.toNat else zeroS)), .int .i64 (refuseN P d i)]
theorem readV_no {P : Pw} {d : Dv} {i x : Int} (h : refuseN P d i = x) (hx : x ≠ 0) : readV P d i = .tuple #[.agg (bva zeroS), .int .i64 x] := by rw [readV, h, if_neg hx]
theorem readV_yes {P : Pw} {d : Dv} {i : Int} (h : refuseN P d i = 0) : readV P d i = .tuple #[.agg (bva (d.now i.toNat)), .int .i64 0] := by rw [readV, h, if_pos rfl]
theorem RdD.mono8 {B g n c m e : Nat} {w : World} {d : Dv} {A W : Option Addr} (h : RdD B w g d A n c W m e) (hB : B ≤ w.heap.size) : RdD w.heap.size w g d A n c W m e :=
  ⟨h.blk, h.st.more hB, h.wt.more hB, h.stn, h.wtn, h.ok, h.few⟩
set_option maxRecDepth 100000 in
set_option maxHeartbeats 3200000 in
theorem rread_any {g p n c m e : Nat} {d : Dv} {A W : Option Addr} {w : World} (h : RdD w.heap.size w g d A n c W m e) (LV : Value) (o : Bool) (lf : Int) (hp : Blk w p #[LV, .bool o, .int .i64 lf] 29) (i : Int) :
    Calls Try.prog 38 #[.pointer (some ⟨g, 0, none⟩), .pointer (some ⟨p, 0, none⟩), .int .i64 i] w (RetB (readV ⟨o, lf⟩ d i) w) := by
  obtain ⟨z, hz0⟩ : ∃ z : List UInt8, z = zeroS := ⟨_, rfl⟩
  have hz : ∀ W, (zeroValue 38).run Try.prog W = .ok (.agg (bva z)) W := fun _ => by rw [hz0]; kernel_rfl
  have HBZ := Lib.hid (show ∀ W, (Instr.build 38 #[]).run Try.prog W = .ok (.agg (bva z)) W from fun _ => by rw [hz0]; kernel_rfl)
  have Z3 : Hid (z.length = 128) := by show _ = _; rw [hz0]; exact zeroS_length
  have HIZ : Hid ((Try.prog.info? 38).map (·.size) = some (bva z).size) := by show _ = _; rw [bva_size, Z3.out]; exact info_sec
  have Z0 := Lib.hid hz0
  have H := Lib.hid h
  have HP := Lib.hid hp
  have B0 := Lib.hid (show Below w.heap.size w (w.alloc (.cells (bva z) 38)) from (Below.refl _ w).alloc (Nat.le_refl _) _)
  have R0 := Lib.hid (show Blk (w.alloc (.cells (bva z) 38)) w.heap.size (bva z) 38 from heap_alloc_new _ _)
  have h1 := h.below B0.out (Nat.le_refl _)
  have p1 : Blk (w.alloc (.cells (bva z) 38)) p #[LV, .bool o, .int .i64 lf] 29 := blk_old8 hp
  have H1 := Lib.hid h1
  have co := p1.cell 1
  have c0 := h1.blk.cell 0
  have c5 := h1.blk.cell 5
  obtain ⟨gn, hgn⟩ : ∃ gn, gn = d.gone := ⟨_, rfl⟩
  have HGN := Lib.hid hgn
  have hstn := h.stn
  have HSN := Lib.hid hstn
  have c5' : (w.alloc (.cells (bva z) 38)).cell? ⟨g, 5, none⟩ = some (.bool gn) := by rw [hgn]; exact c5
  have co' : (w.alloc (.cells (bva z) 38)).cell? ⟨p, 1, none⟩ = some (.bool o) := co
  have c0' : (w.alloc (.cells (bva z) 38)).cell? ⟨g, 0, none⟩ = some (.slice A n c) := c0
  clear h hp hz0 h1 p1 co c0 c5 hgn hstn
  cases o
  · cases gn
    · by_cases hi : i < 0
      · have HR := Lib.hid (show refuseN ⟨false, lf⟩ d i = 2 by unfold refuseN; rw [← HGN.out, if_neg (by simp), if_pos (.inl hi)])
        have di : decide (i < 0) = true := decide_eq_true hi
        clear hi
        go_enter Try.func38, Try.ntmps38
        go_wp2_with (first
          | (refine wpList_build rfl 38 #[] rfl (v := .agg (bva z)) ?hbld ?_; case hbld => exact HBZ.out _)
          | (refine wpList_store_row rfl 38 (.tmp 6) (.tmp 30) rfl w.heap.size (bva z) rfl rfl 38 (bva z) R0.out HIZ.out (by rfl) (bva_one _) ?_))
        exact bodyPost_ret (v := .tuple #[.agg (bva z), .int .i64 2]) (results_ct8 Try.results38 _ _ w.heap.size 38 (bva z) _ rfl (setRow_heap _ _ _ _ _ _ R0.out) Try.underlying38 rfl HIZ.out) rfl ⟨by rw [readV_no (x := 2) HR.out (by omega), ← Z0.out], below_setRow B0.out (Nat.le_refl _) _⟩
      · by_cases hn : (n : Int) ≤ i
        · have HR := Lib.hid (show refuseN ⟨false, lf⟩ d i = 2 by unfold refuseN; rw [← HGN.out, if_neg (by simp), if_pos (.inr (by rw [HSN.out]; exact hn))])
          have di : decide (i < 0) = false := decide_eq_false hi
          have dn : decide (i ≥ (n : Int)) = true := decide_eq_true hn
          clear hi hn
          go_enter Try.func38, Try.ntmps38
          go_wp2_with (first
            | (refine wpList_build rfl 38 #[] rfl (v := .agg (bva z)) ?hbld ?_; case hbld => exact HBZ.out _)
            | (refine wpList_store_row rfl 38 (.tmp 6) (.tmp 30) rfl w.heap.size (bva z) rfl rfl 38 (bva z) R0.out HIZ.out (by rfl) (bva_one _) ?_))
          exact bodyPost_ret (v := .tuple #[.agg (bva z), .int .i64 2]) (results_ct8 Try.results38 _ _ w.heap.size 38 (bva z) _ rfl (setRow_heap _ _ _ _ _ _ R0.out) Try.underlying38 rfl HIZ.out) rfl ⟨by rw [readV_no (x := 2) HR.out (by omega), ← Z0.out], below_setRow B0.out (Nat.le_refl _) _⟩
        · obtain ⟨k, rfl⟩ := Int.eq_ofNat_of_zero_le (show 0 ≤ i by omega)
          have hkn : k < n := by omega
          have HR := Lib.hid (show refuseN ⟨false, lf⟩ d (k : Int) = 0 by unfold refuseN; rw [← HGN.out, if_neg (by simp), if_neg (by rw [HSN.out]; omega)])
          have di : decide ((k : Int) < 0) = false := decide_eq_false hi
          have dn : decide ((k : Int) ≥ (n : Int)) = false := decide_eq_false (by omega)
          have dn2 : decide (n ≤ k) = false := decide_eq_false (by omega)
          have HKN := Lib.hid hkn
          clear hi hn hkn
          go_enter Try.func38, Try.ntmps38
          go_wp2_with fail
          refine (rnow_any (H1.out.mono8 (by simp)) k HKN.out).mono ?_
          rintro e w2 ⟨rfl, bw⟩
          have R2 := Lib.hid (R0.out.below bw)
          have B2 := Lib.hid (B0.out.trans (bw.mono B0.out.size))
          obtain ⟨y, hy⟩ : ∃ y, y = d.now k := ⟨_, rfl⟩
          rw [← hy]
          have Y3 : Hid (y.length = 128) := by show _ = _; rw [hy]; exact now_ok _ _ _ H.out.ok.st (fun v hv => (H.out.ok.wt v hv).2)
          have HIY : Hid ((Try.prog.info? 38).map (·.size) = some (bva y).size) := by show _ = _; rw [bva_size, Y3.out]; exact info_sec
          have HY := Lib.hid hy
          clear bw hy R0 B0 c0' c5' co'
          go_wp2_with (refine wpList_store_row rfl 38 (.tmp 6) (.tmp 33) rfl w.heap.size (bva y) rfl rfl 38 (bva z) R2.out HIY.out (by rw [bva_size, bva_size, Y3.out, Z3.out]) (bva_one _) ?_)
          exact bodyPost_ret (v := .tuple #[.agg (bva y), .int .i64 0]) (results_ct8 Try.results38 _ _ w.heap.size 38 (bva y) _ rfl (setRow_heap _ _ _ _ _ _ R2.out) Try.underlying38 rfl HIY.out) rfl ⟨by rw [readV_yes HR.out, HY.out]; rfl, below_setRow B2.out (Nat.le_refl _) _⟩
    · have HR := Lib.hid (show refuseN ⟨false, lf⟩ d i = 13 by unfold refuseN; rw [← HGN.out, if_pos (by simp)])
      go_enter Try.func38, Try.ntmps38
      go_wp2_with (first
        | (refine wpList_build rfl 38 #[] rfl (v := .agg (bva z)) ?hbld ?_; case hbld => exact HBZ.out _)
        | (refine wpList_store_row rfl 38 (.tmp 6) (.tmp 18) rfl w.heap.size (bva z) rfl rfl 38 (bva z) R0.out HIZ.out (by rfl) (bva_one _) ?_))
      exact bodyPost_ret (v := .tuple #[.agg (bva z), .int .i64 13]) (results_ct8 Try.results38 _ _ w.heap.size 38 (bva z) _ rfl (setRow_heap _ _ _ _ _ _ R0.out) Try.underlying38 rfl HIZ.out) rfl ⟨by rw [readV_no (x := 13) HR.out (by omega), ← Z0.out], below_setRow B0.out (Nat.le_refl _) _⟩
  · have HR := Lib.hid (show refuseN ⟨true, lf⟩ d i = 13 by unfold refuseN; rw [if_pos (by simp)])
    go_enter Try.func38, Try.ntmps38
    go_wp2_with (first
      | (refine wpList_build rfl 38 #[] rfl (v := .agg (bva z)) ?hbld ?_; case hbld => exact HBZ.out _)
      | (refine wpList_store_row rfl 38 (.tmp 6) (.tmp 18) rfl w.heap.size (bva z) rfl rfl 38 (bva z) R0.out HIZ.out (by rfl) (bva_one _) ?_))
    exact bodyPost_ret (v := .tuple #[.agg (bva z), .int .i64 13]) (results_ct8 Try.results38 _ _ w.heap.size 38 (bva z) _ rfl (setRow_heap _ _ _ _ _ _ R0.out) Try.underlying38 rfl HIZ.out) rfl ⟨by rw [readV_no (x := 13) HR.out (by omega), ← Z0.out], below_setRow B0.out (Nat.le_refl _) _⟩
end Go.Proofs.Ytolbffcbamfbeaa.Kd
