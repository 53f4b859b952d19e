import Derived.Test.YtllgaodnfoehkaaStream
namespace Go.Proofs.Ytllgaodnfoehkaa
open Go.RowKit
theorem bytesElt : Elt Try.prog 44 5 (.int .u8 0) 1 := ⟨Try.underlying44, info_byte, rfl, by decide⟩
theorem streamL_snoc (key : List UInt8) (n N : Nat) : streamL key n (N + 1) = streamL key n N ++ [strAt key n N] := by
  unfold streamL
  rw [List.range_succ, List.map_append]; rfl
theorem rblock_as (key : List UInt8) (hkey : key.length = 32) (x : Int) (c : UInt32) (n : Nat) (w : World) (hx : x = (c.toNat : Int)) :
    Calls Try.prog 20 #[.agg (bva key), .int .u32 x, .int .u64 (n : Int)] w (RetB (.agg (bva (blockL key c n))) w) := by
  rw [hx]; exact rblock_any key hkey c n w
theorem Blk.grown {w w' : World} {g : Nat} {cs : Array Value} {A : TypeId} {row : Option Nat} (h : Blk w g cs A) (hg : w.grownBy w' row) (hne : row ≠ some g) : Blk w' g cs A := by
  unfold Blk
  rw [hg.block g h.lt (fun e => hne e.symm)]
  exact h
theorem blk_alloc {w : World} {g : Nat} {A : TypeId} {cs : Array Value} (h : Blk w g cs A) (o : Obj) : Blk (w.alloc o) g cs A := by
  unfold Blk
  rw [heap_alloc_old _ _ h.lt]
  exact h
/-- The slice isn't the block g. -/
def Not (v : Value) (g : Nat) : Prop := v.ownBlock ≠ some g
set_option maxHeartbeats 1000000 in
theorem rstream_in (key : List UInt8) (hkey : key.length = 32) (n s : Nat) (w : World) (hs1 : 1 ≤ s) (hs2 : s ≤ 65536) :
    Calls Try.prog 25 #[.agg (bva key), .int .u64 (n : Int), .int .i64 (s : Int)] w (RetRow 5 (bv (streamL key n s)) w) := by
  have g1 : ¬ (s : Int) < 1 := by omega
  have g2' : (s : Int) ≤ 65536 := by omega
  have HI : Hid ((Try.prog.info? 35).map (·.size) = some (bva key).size) := by rw [bva_size, hkey]; exact info35
  have b0 := heap_alloc_new w (.cells (bva key) 35)
  have B0 := Lib.hid b0
  clear b0
  go_enter Try.func25, Try.ntmps25
  go_wp2
  go_loopw [7, 8, 9, 10] (fun v i _ _ wr => ∃ (k N : Nat) (A : Option Addr) (c : Nat), Hid (N = 64 * k ∨ N = s) ∧ k ≤ N ∧ N ≤ s ∧ i = .int .i64 k ∧ v = .slice A N c ∧ wr.ownsRow (w.heap.size + 1) 5 1 (.slice A N c) N (bv (streamL key n N)) ∧ Blk wr w.heap.size (bva key) 35 ∧ Below w.heap.size w wr) (fun v _ _ _ _ => match v with | .slice _ N _ => s - N | _ => 0)
  case atStart => exact ⟨0, 0, none, 0, .inl rfl, Nat.le_refl _, by omega, rfl, rfl, World.ownsRow_nil _ _ _ _, B0.out, (Below.refl _ _).alloc (Nat.le_refl _) _⟩
  case round =>
    obtain ⟨k, N, A, c, HN, hkN, hNs, rfl, rfl, hown, hK, hbel⟩ := hrel
    clear B0
    by_cases hlt : N < s
    · have hk64 : N = 64 * k := by rcases HN.out with h | h <;> omega
      have k0 : (0 : Int) ≤ (k : Int) := by omega
      have k1 : (k : Int) ≤ 1024 := by omega
      have kc : (k : Int) = ((UInt32.ofNat k).toNat : Int) := by rw [UInt32.toNat_ofNat']; omega
      have KC := Lib.hid kc
      have HK := Lib.hid hk64
      have G1 := Lib.hid hK
      have O1 := Lib.hid hown
      clear kc hk64 hK hown
      go_wp2_with (refine wpList_load_row rfl 35 (.tmp 3) rfl w.heap.size rfl 35 (bva key) (0, 0) _ ?hg Try.underlying35 rfl HI.out ?_; case hg => exact G1.out)
      refine (rblock_as key hkey _ (UInt32.ofNat k) n _ KC.out).mono ?_
      rintro e w2 ⟨rfl, hb2⟩
      have HX : Hid ((Try.prog.info? 38).map (·.size) = some (bva (blockL key (UInt32.ofNat k) n)).size) := by rw [bva_size, blockL_length]; exact info38
      have p1 := G1.out.below hb2
      have p2 := own_below O1.out hb2
      have p3 := hbel.trans (hb2.mono hbel.size)
      have p4 : Not (.slice A N c) w2.heap.size := fun h => by have := (p2.lt _ h).2; omega
      have P1 := Lib.hid p1
      have P2 := Lib.hid p2
      have P3 := Lib.hid p3
      have P4 := Lib.hid p4
      clear p1 p2 p3 p4 G1 O1 hbel hb2
      go_wp2_with (refine wpList_store_row rfl 38 (.tmp 9) (.tmp 28) rfl w2.heap.size (bva (blockL key (UInt32.ofNat k) n)) rfl rfl 38 (bva (List.replicate 64 0)) (heap_alloc_new _ _) HX.out (by rw [bva_size, bva_size, blockL_length]; rfl) (bva_one _) ?_; generalize hw3 : World.setRow _ _ _ = w3; have HW := Lib.hid hw3; clear hw3)
      have r1 : Blk w3 w.heap.size (bva key) 35 := by rw [← HW.out]; exact blk_past P1.out
      have r2 : w3.ownsRow (w.heap.size + 1) 5 1 (.slice A N c) N (bv (streamL key n N)) := by
        rw [← HW.out]; exact own_below P2.out (below_new (Below.refl _ _) (Nat.le_refl _))
      have r3 : Blk w3 w2.heap.size (bva (blockL key (UInt32.ofNat k) n)) 38 := by rw [← HW.out]; exact blk_new _
      have r4 : Below w.heap.size w w3 := by rw [← HW.out]; exact below_new P3.out P3.out.size
      have l2 := P1.out.lt
      have R1 := Lib.hid r1
      have R2 := Lib.hid r2
      have R3 := Lib.hid r3
      have R4 := Lib.hid r4
      clear r1 r2 r3 r4 P1 P2 P3 HW
      have hlt' : N < s := hlt
      go_loopw [7, 10] (fun v i wr => ∃ (j M : Nat) (A : Option Addr) (c : Nat), Hid (M = 64 * k + j) ∧ j ≤ 64 ∧ M ≤ s ∧ i = .int .i64 j ∧ v = .slice A M c ∧ wr.ownsRow (w.heap.size + 1) 5 1 (.slice A M c) M (bv (streamL key n M)) ∧ Hid (Not (.slice A M c) w2.heap.size) ∧ Blk wr w.heap.size (bva key) 35 ∧ Blk wr w2.heap.size (bva (blockL key (UInt32.ofNat k) n)) 38 ∧ Below w.heap.size w wr) (fun _ i _ => 64 - (intOf i).toNat)
      case atStart => exact ⟨0, N, A, c, HK.out, by omega, hNs, rfl, rfl, R2.out, P4.out, R1.out, R3.out, R4.out⟩
      case round =>
        obtain ⟨j, M, A', c', HM, hj, hM, rfl, rfl, hown, HN4, hK, hB, hbel⟩ := hrel
        clear R1 R2 R3 R4 P4
        by_cases hj64 : j < 64
        · by_cases hMs : M < s
          · have j0 : (0 : Int) ≤ (j : Int) := by omega
            obtain ⟨x, hx⟩ : ∃ x, x = (blockL key (UInt32.ofNat k) n).getD j 0 := ⟨_, rfl⟩
            have C0 := hB.cellb (k := j) (by rw [blockL_length]; omega)
            rw [← hx] at C0
            have hsx : strAt key n M = x := by
              have h := HM.out
              rw [hx, strAt, show M / 64 = k by omega, show M % 64 = j by omega]
            have HS := Lib.hid hsx
            have O1 := Lib.hid hown
            have G1 := Lib.hid hK
            have G2 := Lib.hid hB
            clear hown hK hB hx hsx
            go_wp2_with (at_builtin; refine wpList_app _ rfl (.tmp 39) (.tmp 43) _ rfl bytesElt (base := w.heap.size + 1) (v := .slice A' M c') rfl (O1.out.alloc _) (m := 1) rfl (Rd.lit wr 5 [.int .u8 (x.toNat : Int)]) rfl (by intro u hu; simp at hu; subst hu; rfl) ?_ ?_ ?_; omega; (simp; have := G1.out.lt; omega); intro A2 c2 w4 ho4 hg4 hw4; have HO4 := Lib.hid ho4; have HG4 := Lib.hid hg4; have HW4 := Lib.hid hw4; clear ho4 hg4 hw4)
            go_roundw
            case rel =>
              refine ⟨j + 1, M + 1, A2, c2, (by have h := HM.out; show M + 1 = 64 * k + (j + 1); omega), by omega, by omega, by go_num, rfl, ?_, ?_, (blk_alloc G1.out _).grown HG4.out ?_, (blk_alloc G2.out _).grown HG4.out HN4.out, (hbel.alloc hbel.size _).grown HG4.out (by simp; have := hbel.size; omega) ?_⟩
              · have h := HO4.out
                rw [streamL_snoc, bv_append, HS.out]
                exact h
              · intro h
                rcases HW4.out with h1 | h1
                · exact HN4.out (h1.symm.trans h)
                · rw [h1] at h
                  injection h with h
                  have := G2.out.lt
                  simp at h
                  omega
              · intro h
                have := (O1.out.lt _ h).1
                omega
              · intro q hq
                have := (O1.out.lt _ hq).1
                omega
            case measure => simp [intOf]; omega
          · have hMs' : M = s := by omega
            have O1 := Lib.hid hown
            have G1 := Lib.hid hK
            clear hown hK hB
            have HE := Lib.hid hMs'
            clear hMs'
            go_wp2_with fail
            refine ⟨⟨k + 1, M, A', c', .inr HE.out, by have := HE.out; omega, by have := HE.out; omega, by go_num, rfl, O1.out, G1.out, hbel⟩, ?_⟩
            show s - M < s - N
            have := HE.out
            omega
        · have hj' : j = 64 := by omega
          have hM' : M = 64 * (k + 1) := by have := HM.out; omega
          have HE := Lib.hid hM'
          have O1 := Lib.hid hown
          have G1 := Lib.hid hK
          clear hown hK hB hM'
          go_wp2_with fail
          refine ⟨⟨k + 1, M, A', c', .inl HE.out, by have := HE.out; omega, hM, by go_num, rfl, O1.out, G1.out, hbel⟩, ?_⟩
          show s - M < s - N
          have := HE.out
          have := HK.out
          omega
    · obtain rfl : N = s := by omega
      have O1 := Lib.hid hown
      clear hown hK
      go_wp2
      go_ret
      exact RetRow.mk rfl (own_more O1.out (by omega)) hbel

set_option maxHeartbeats 400000 in
theorem rstream_out (key : List UInt8) (n : Nat) (s : Int) (w : World) (hs : s < 1 ∨ 65536 < s) :
    Calls Try.prog 25 #[.agg (bva key), .int .u64 (n : Int), .int .i64 s] w (RetRow 5 (bv []) w) := by
  rcases hs with hs | hs
  · go_enter Try.func25, Try.ntmps25
    go_wp2
    go_ret
    exact RetRow.mk rfl (World.ownsRow_nil _ _ _ _) ((Below.refl _ _).alloc (Nat.le_refl _) _)
  · have hs' : ¬ s < 1 := by omega
    go_enter Try.func25, Try.ntmps25
    go_wp2
    go_ret
    exact RetRow.mk rfl (World.ownsRow_nil _ _ _ _) ((Below.refl _ _).alloc (Nat.le_refl _) _)

theorem rstream_any (key : List UInt8) (hkey : key.length = 32) (n : Nat) (size : Int) (w : World) :
    Calls Try.prog 25 #[.agg (bva key), .int .u64 (n : Int), .int .i64 size] w (RetRow 5 (bv (streamI key n size)) w) := by
  by_cases h : 1 ≤ size ∧ size ≤ 65536
  · obtain ⟨s, rfl⟩ := Int.eq_ofNat_of_zero_le (by omega : 0 ≤ size)
    rw [streamI, if_pos h, Int.toNat_natCast]
    exact rstream_in key hkey n s w (by omega) (by omega)
  · rw [streamI, if_neg h]
    exact rstream_out key n size w (by omega)
end Go.Proofs.Ytllgaodnfoehkaa
