/-
  SectorMirror holds: of every number, body (any length), device, place of a byte and mask the law returns true, and its arguments read as they did.
-/
import Derived.Test.YtgfldfofiglefaaMn2
import Derived.Test.YtgfldfofiglefaaRows
import Derived.ProofKit
import Derived.OpenShut
import Derived.ShutString
import Derived.ChangeOld
namespace Go.Proofs.Ytgfldfofiglefaa
open Go.RowKit Kd Mi Sc Sx Go.ChangeShapes Go.WideShapes Go.ChangeAt
attribute [local go_sem ↓] Go.wp_at_zero Go.wp_at_succ
theorem byte_ofS {x : Int} (h : 0 ≤ x ∧ x ≤ 255) : ∃ b : UInt8, x = (b.toNat : Int) := ⟨UInt8.ofNat x.toNat, by rw [UInt8.toNat_ofNat']; omega⟩
theorem rep_info : (Try.prog.info? 84).map (·.size) = some 3 := by kernel_rfl
set_option maxRecDepth 100000 in
set_option maxHeartbeats 51200000 in
theorem sectorMirror_any (w : World) (gi : Int) (hgi : 0 ≤ gi ∧ gi ≤ 18446744073709551615) (A : Option Addr) (n c : Nat) (l : List UInt8) (hl : l.length = n) (_ : n ≤ c) (_ : c ≤ maxLen) (hr : Rd w.heap.size w A (bv l)) (first : Bool) (i : Int) (hi : 0 ≤ i ∧ i ≤ 255) (yi : Int) (hyi : 0 ≤ yi ∧ yi ≤ 255) :
    Calls Try.prog 14 #[.int .u64 gi, .slice A n c, .bool first, .int .u8 i, .int .u8 yi] w (RetB (.bool true) w) := by
  obtain ⟨gen, rfl⟩ := Int.eq_ofNat_of_zero_le hgi.1
  obtain ⟨mb, rfl⟩ := byte_ofS hyi
  have HG := Lib.hid (show U64 gen from by unfold U64; omega)
  have HL := Lib.hid hl
  have RA := Lib.hid hr
  clear hgi hl hr hyi
  obtain ⟨z, hz0⟩ : ∃ z : List UInt8, z = zeroS := ⟨_, rfl⟩
  have hz : ∀ W, (zeroValue 38).run Try.prog W = .ok (.agg (bva z)) W := fun _ => by rw [hz0]; kernel_rfl
  have HZ0 := Lib.hid hz0
  have HZ3 := Lib.hid (show z.length = 128 by rw [hz0]; exact zeroS_length)
  have HIZ : Hid ((Try.prog.info? 38).map (·.size) = some (bva z).size) := by rw [bva_size, HZ3.out]; exact info_sec
  have HLIT := Lib.hid (show Try.zeroCells98 = zeroLit by kernel_rfl)
  clear hz0
  by_cases hbig : 103 < n
  · have hd : decide ((103 : Int) < (n : Int)) = true := by simp; omega
    clear hbig
    go_enter Try.func14, Try.ntmps14
    go_wp2_with fail
    refine (Sx.awake_any _).mono ?_
    rintro e w1 ⟨rfl, bw⟩
    go_wp2_with fail
    go_ret
    exact ⟨rfl, bw⟩
  have hd : decide ((103 : Int) < (n : Int)) = false := by simp; omega
  have HN := Lib.hid (show n ≤ 103 by omega)
  obtain ⟨q, hq⟩ : ∃ q : Nat, (q : Int) = i % 128 := ⟨(i % 128).toNat, by omega⟩
  have i0 := hi.1
  have i1 := hi.2
  have eq : i % 128 = (q : Int) := hq.symm
  have HQ := Lib.hid (show q < 128 by omega)
  have hmay := Lib.hid (show mayS 1 l = true from decide_eq_true ⟨by omega, by omega, by have := HL.out; omega⟩)
  obtain ⟨s, hs⟩ : ∃ s, s = sealedS litSumL 1 gen l := ⟨_, rfl⟩
  have HS3 := Lib.hid (show s.length = 128 by rw [hs]; exact sealedS_length litSumL_length (by have := HL.out; omega))
  have HIS : Hid ((Try.prog.info? 38).map (·.size) = some (bva s).size) := by rw [bva_size, HS3.out]; exact info_sec
  have HISL := Lib.hid (show (Try.prog.info? 38).map (·.size) = some (bv s).length by rw [bv_length, HS3.out]; exact info_sec)
  have HFS := Lib.hid (show okS litSumL 1 s = true by rw [hs]; exact ok_sealed litSumL_length hmay.out HG.out)
  obtain ⟨t, ht⟩ : ∃ t, t = rotS s q mb := ⟨_, rfl⟩
  have HT := Lib.hid ht
  have HT3 := Lib.hid (show t.length = 128 by rw [ht, rotS_length]; exact HS3.out)
  have HIT : Hid ((Try.prog.info? 38).map (·.size) = some (bva t).size) := by rw [bva_size, HT3.out]; exact info_sec
  have HITL := Lib.hid (show (Try.prog.info? 38).map (·.size) = some (bv t).length by rw [bv_length, HT3.out]; exact info_sec)
  have HCP := Lib.hid (show ∀ W, Rd W.heap.size W A (bv l) → Calls Try.prog 51 #[.iface 98 (.agg Try.zeroCells98), .int .i64 1, .int .u64 gen, .slice A n c] W (RetB (.tuple #[.agg (bva s), .bool true]) W) from fun W hr => by
    have h := pack_any litS 1 gen HG.out A n c l W HL.out hr
    rw [hmay.out, packS, hmay.out, if_pos rfl] at h
    rw [HLIT.out, hs]; exact h)
  have heqs : ∀ W, (Op.equalIn 10000 38 (.agg (bva s)) (.agg (bva s))).run Try.prog W = .ok true W := fun W => by rw [eq_sec s s HS3.out HS3.out, decide_eq_true rfl]
  have HTS := Lib.hid (eq_sec t s HT3.out HS3.out)
  have B0 := Lib.hid (Below.refl w.heap.size w)
  clear hs ht hq hbig hi hmay
  go_enter Try.func14, Try.ntmps14
  go_wp2_with fail
  have hc := Sx.awake_any w
  refine hc.mono ?_
  clear hc
  rintro e w1 ⟨rfl, bw⟩
  have B1 := Lib.hid (B0.out.trans (bw.mono B0.out.size))
  clear bw B0
  go_wp2_with fail
  refine (live_new0 3).mono ?_
  rintro e w2 ⟨p1, g1, rfl, F2, h⟩
  have H2 := Lib.hid h
  clear h
  go_wp2_with fail
  refine (live_new0 3).mono ?_
  rintro e w3 ⟨p2, g2, rfl, F3, h⟩
  have HD3 := Lib.hid (ld_new H2.out h (see_new 3 (by omega)) (see_new 3 (by omega)))
  clear h H2
  go_wp2_with fail
  refine (good_iface _ _ _).mono ?_
  rintro e w4 ⟨rfl, hw4⟩
  have bw : Below w3.heap.size w3 w4 := by rw [hw4]; exact (Below.refl _ _).alloc (Nat.le_refl _) _
  obtain ⟨fb, hfb⟩ : ∃ fb, fb = w3.heap.size := ⟨_, rfl⟩
  have FB := Lib.hid (show Blk w4 fb #[.iface 98 (.agg Try.zeroCells98)] 159 from by rw [hw4, hfb]; exact heap_alloc_new _ _)
  have FN := Lib.hid (show ¬ (fun q => F2 q ∨ F3 q) fb ∧ w1.heap.size ≤ fb from ⟨fun hf => by have := (Two p1 g1 p2 g2).L.lt HD3.out.live.at_ fb hf; omega, by rw [hfb]; exact HD3.out.live.bel.size⟩)
  rw [← hfb]
  clear hw4 hfb
  have H4 := Lib.hid (HD3.out.below bw)
  clear bw HD3
  go_wp2_with fail
  have hc := lm_newS (G := gdS litS fb) (fun _ _ _ _ _ _ => trivial) H4.out (n := 3) (fun x hx => by
    rw [show (gdS litS fb).l = [(fb, #[litS.v], 159)] from rfl, List.mem_singleton] at hx
    subst hx
    refine ⟨?_, FN.out⟩
    have h := FB.out
    rw [HLIT.out] at h
    exact h) rfl rfl
  refine hc.mono ?_
  clear hc
  rintro e w5 ⟨g, s5, F5, rfl, h⟩
  have H5 := Lib.hid (show LM p1 g1 p2 g2 (gdS litS fb) g w1 w5 s5 F5 (startM (three zeroS) (three zeroS) 3) 0 from h)
  clear h FB FN H4
  go_wp2_with fail
  have hc := HCP.out w5 ((RA.out.below (B1.out.trans (H5.out.live.bel.mono B1.out.size))).more (B1.out.trans (H5.out.live.bel.mono B1.out.size)).size)
  refine hc.mono ?_
  clear hc
  rintro e w6 ⟨rfl, bw⟩
  have H6 := Lib.hid (H5.out.below bw)
  clear bw H5
  go_wp2_with (show wpList _ _ _ ({ dst := none, op := .store 38 (.tmp 14) (.tmp 46), type := _, pos := _, after := _, guard := _ } :: _) _ _; apply Classical.byContradiction; intro hneg)
  refine hneg ?_
  clear hneg
  refine wpList_store_row rfl 38 (.tmp 14) (.tmp 46) rfl w6.heap.size (bva s) rfl rfl 38 (bva z) (heap_alloc_new _ _) HIS.out (by rw [bva_size, bva_size, HS3.out, HZ3.out]) (bva_one _) ?_
  obtain ⟨w7, hw7⟩ : ∃ w7, w7 = (w6.alloc (.cells (bva z) 38)).setRow w6.heap.size (bva s) := ⟨_, rfl⟩
  have bw : Below w6.heap.size w6 w7 := by rw [hw7]; exact below_setRow ((Below.refl _ _).alloc (Nat.le_refl _) _) (Nat.le_refl _) _
  have hbx : Blk w7 w6.heap.size (bva s) 38 := by rw [hw7]; exact setRow_heap _ _ _ _ _ _ (heap_alloc_new _ _)
  rw [← hw7]
  clear hw7
  obtain ⟨b7, hb7⟩ : ∃ b7, b7 = w6.heap.size := ⟨_, rfl⟩
  rw [← hb7] at hbx
  rw [← hb7]
  have BS7 := Lib.hid (show Bx w1 w7 F5 b7 (bva s) 38 from ⟨hbx, by rw [hb7]; exact H6.out.live.bel.size, fun hf => by have := (ML (Two p1 g1 p2 g2) (gdS litS fb) g).lt H6.out.live.at_ _ hf; omega⟩)
  clear hb7 hbx
  have H7 := Lib.hid (H6.out.below bw)
  clear bw H6
  go_wp2_with (refine wpList_load_row rfl 38 (.tmp 14) rfl b7 rfl 38 (bva s) (0, 0) _ BS7.out.1 Try.underlying38 rfl HIS.out ?_)
  have hc := lm_write H7.out (1 : Int) s HS3.out (by omega)
  rw [three_start s] at hc
  refine hc.mono ?_
  clear hc
  rintro e w8 ⟨rfl, s8, F8, h, hm8⟩
  have H8 := Lib.hid (show LM p1 g1 p2 g2 (gdS litS fb) g w1 w8 s8 F8 (startM (three s) (three s) 3) (0 + 2) from h)
  have BS8 := Lib.hid (BS7.out.step hm8)
  clear h hm8 H7 BS7
  go_wp2_with fail
  have hc := lm_flush H8.out
  rw [if_neg (show ¬ ((startM (three s) (three s) 3).o0 && (startM (three s) (three s) 3).o1) = true by show ¬ (false && false) = true; simp)] at hc
  refine hc.mono ?_
  clear hc
  rintro e w9 ⟨rfl, s9, F9, h, hm9⟩
  have H9 := Lib.hid (show LM p1 g1 p2 g2 (gdS litS fb) g w1 w9 s9 F9 (startM (three s) (three s) 3) 0 from h)
  have BS9 := Lib.hid (BS8.out.step hm9)
  clear h hm9 H8 BS8
  cases first with
  | true =>
    go_wp2_with fail
    have hc := lm_rot0 H9.out (1 : Int) (q : Int) mb
    rw [(three_rot0 (s := s) (q := q) (b := mb) HQ.out).1, (three_rot0 (s := s) (q := q) (b := mb) HQ.out).2, ← HT.out] at hc
    refine hc.mono ?_
    clear hc
    rintro e w10 ⟨rfl, s10, F10, h, hm10⟩
    have H10 := Lib.hid (show LM p1 g1 p2 g2 (gdS litS fb) g w1 w10 s10 F10 (startM (three t) (three s) 3) 0 from h)
    have BS10 := Lib.hid (BS9.out.step hm10)
    clear h hm10 H9 BS9
    go_wp2_with fail
    have hc := lm_dump0S H10.out
    rw [start_len] at hc
    refine hc.mono ?_
    clear hc
    rintro e w11 ⟨U, cU, rfl, ho, hok, bw⟩
    have RU := Lib.hid (sec_at (Rd.ownN ho) hok (q := 1) (by show 1 < (three t).length; rw [three_length]; omega) (show _ = t from rfl))
    clear ho hok
    have H11 := Lib.hid (H10.out.below bw)
    have BS11 := Lib.hid (BS10.out.below bw)
    clear bw H10 BS10
    obtain ⟨au, hau, CU⟩ := RU.out
    subst hau
    have HCU := Lib.hid CU
    clear CU RU
    by_cases hmz : mb = 0
    ·
      have hts : t = s := by rw [HT.out, hmz]; exact rotS_zero s q
      have HFT := Lib.hid (show okS litSumL 1 t = false ∨ t = s from .inr hts)
      have HCK := Lib.hid (show (if ck (gdS litS fb).f 1 t s = 1 then 1 else 0) = 0 from by
        rw [hts]
        rcases ck_same (f := (gdS litS fb).f) 1 s with h | h <;> rw [h] <;> rfl)
      have HHL := Lib.hid (show hl0 (gdS litS fb).f 1 t s = s ∧ hl1 (gdS litS fb).f 1 t s = s from by
        rw [hts]; unfold hl0 hl1; cases (gdS litS fb).f 1 s <;> exact ⟨rfl, rfl⟩)
      have HMZ := Lib.hid (show (mb.toNat : Int) = 0 by rw [hmz]; rfl)
      have heqt : ∀ W, (Op.equalIn 10000 38 (.agg (bva t)) (.agg (bva s))).run Try.prog W = .ok true W := fun W => by rw [HTS.out, decide_eq_true hts]
      clear hts hmz
      go_upto_region 15 with fail
      refine wp_region_held_drew (S := fun w' => Below w11.heap.size w11 w') (by kernel_rfl) (Below.refl _ _).drew (fun hh => ?_)
      have HH := Lib.hid hh
      clear hh
      refine wpAnyH_take (i := 0) (v := ?vRaz0) rfl (by kernel_rfl) (by kernel_rfl) (by kernel_rfl) (fun _ _ _ h => h) (Or.inl ⟨by rfl, fun w' _ => ?yRaz0⟩) HH.out ?_
      case yRaz0 => (go_simp; try with_reducible rfl)
      refine wpAnyH_take (i := 1) (v := ?vRaz1) rfl (by kernel_rfl) (by kernel_rfl) (by kernel_rfl) (fun _ _ _ h => h) (Or.inl ⟨by rfl, fun w' _ => ?yRaz1⟩) HH.out ?_
      case yRaz1 => (go_simp; try with_reducible rfl)
      try simp only [List.getElem_toArray, List.getElem_cons_succ, List.getElem_cons_zero, Act.put, List.setIfInBounds_toArray, List.set_cons_zero, List.set_cons_succ]
      try simp only [List.getElem_toArray, List.getElem_cons_succ, List.getElem_cons_zero, Act.put, List.setIfInBounds_toArray, List.set_cons_zero, List.set_cons_succ]
      refine wpAnyH_take (i := 2) (v := .agg (bva t)) rfl (by kernel_rfl) (by kernel_rfl) (by kernel_rfl) (fun _ _ _ h => h) (Or.inl ⟨by rfl, fun w' hw' => ?yRaz2⟩) HH.out ?_
      case yRaz2 => exact exec_load_at 38 (.tmp 69) rfl (au.add (1 * 128)) rfl (HCU.out w' hw') Try.underlying38 rfl HITL.out
      try simp only [List.getElem_toArray, List.getElem_cons_succ, List.getElem_cons_zero, Act.put, List.setIfInBounds_toArray, List.set_cons_zero, List.set_cons_succ]
      refine wpAnyH_take (i := 3) (v := .agg (bva s)) rfl (by kernel_rfl) (by kernel_rfl) (by kernel_rfl) (fun _ _ _ h => h) (Or.inl ⟨by rfl, fun w' hw' => ?yRaz3⟩) HH.out ?_
      case yRaz3 => exact exec_load 38 (.tmp 14) rfl rfl (BS11.out.1.below hw') Try.underlying38 rfl HIS.out
      refine wpAnyH_take (i := 4) (v := ?vRaz4) rfl (by kernel_rfl) (by kernel_rfl) (by kernel_rfl) (fun _ _ _ h => h) (Or.inl ⟨by rfl, fun w' _ => ?yRaz4⟩) HH.out ?_
      case yRaz4 => (go_simp; try with_reducible rfl)
      try simp only [List.getElem_toArray, List.getElem_cons_succ, List.getElem_cons_zero, Act.put, List.setIfInBounds_toArray, List.set_cons_zero, List.set_cons_succ]
      refine wpAnyH_done (by kernel_rfl) ?_ _
      have HHB := Lib.hid HH.out
      have bw := HH.out
      clear HCU
      go_wp2_with fail
      have hc := lm_read (H11.out.below bw) (1 : Int)
      rw [show Md.read (gdS litS fb).f (startM (three t) (three s) 3) 1 = (s, 0) from three_read0 HFS.out HFT.out] at hc
      refine hc.mono ?_
      clear hc
      rintro e w13 ⟨rfl, s13, F13, h, hm13⟩
      have H13 := Lib.hid (show LM p1 g1 p2 g2 (gdS litS fb) g w1 w13 s13 F13 (startM (three t) (three s) 3) 0 from h)
      have BS13 := Lib.hid ((BS11.out.below bw).step hm13)
      clear h hm13 bw HH HHB H11 BS11
      go_wp2_with (show wpList _ _ _ ({ dst := none, op := .store 38 (.tmp 21) (.tmp 85), type := _, pos := _, after := _, guard := _ } :: _) _ _; apply Classical.byContradiction; intro hneg)
      refine hneg ?_
      clear hneg
      refine wpList_store_row rfl 38 (.tmp 21) (.tmp 85) rfl w13.heap.size (bva s) rfl rfl 38 (bva z) (heap_alloc_new _ _) HIS.out (by rw [bva_size, bva_size, HS3.out, HZ3.out]) (bva_one _) ?_
      obtain ⟨w14, hw14⟩ : ∃ w14, w14 = (w13.alloc (.cells (bva z) 38)).setRow w13.heap.size (bva s) := ⟨_, rfl⟩
      have bw : Below w13.heap.size w13 w14 := by rw [hw14]; exact below_setRow ((Below.refl _ _).alloc (Nat.le_refl _) _) (Nat.le_refl _) _
      have hbx : Blk w14 w13.heap.size (bva s) 38 := by rw [hw14]; exact setRow_heap _ _ _ _ _ _ (heap_alloc_new _ _)
      rw [← hw14]
      clear hw14
      obtain ⟨b14, hb14⟩ : ∃ b14, b14 = w13.heap.size := ⟨_, rfl⟩
      rw [← hb14] at hbx
      rw [← hb14]
      have BX14 := Lib.hid (show Bx w1 w14 F13 b14 (bva s) 38 from ⟨hbx, by rw [hb14]; exact H13.out.live.bel.size, fun hf => by have := (ML (Two p1 g1 p2 g2) (gdS litS fb) g).lt H13.out.live.at_ _ hf; omega⟩)
      clear hb14 hbx
      have H14 := Lib.hid (H13.out.below bw)
      have BS14 := Lib.hid (BS13.out.below bw)
      clear bw H13 BS13
      obtain ⟨X, hX⟩ : ∃ X, X = (mdRun (gdS litS fb).f ((startM (three t) (three s) 3), Wk.zero) 3).1 := ⟨_, rfl⟩
      obtain ⟨Y, hY⟩ : ∃ Y, Y = (mdRun (gdS litS fb).f ((startM (three t) (three s) 3), Wk.zero) 3).2 := ⟨_, rfl⟩
      have h3 := three_all (f := (gdS litS fb).f) (a := t) (b := s) (s := s) HHL.out
      rw [← hX, ← hY] at h3
      obtain ⟨⟨L0e, L1e⟩, fr, hh⟩ := h3
      have L0E := Lib.hid L0e
      have L1E := Lib.hid L1e
      have FR := Lib.hid fr
      have HHV := Lib.hid (show Y.h = 0 from by rw [hh]; exact HCK.out)
      clear L0e L1e fr hh
      go_wp2_with fail
      have hc := lm_all2 H14.out (by rw [start_len]; omega) (by omega)
      rw [start_len, ← hX, ← hY, show Y.rep = #[.int .i64 Y.r, .int .i64 Y.h, .int .i64 Y.l] from rfl, HHV.out] at hc
      refine hc.mono ?_
      clear hc
      rintro e w15 ⟨rfl, s15, F15, h, hm15⟩
      have H15 := Lib.hid (show LM p1 g1 p2 g2 (gdS litS fb) g w1 w15 s15 F15 X (0 + 3) from h)
      have BS15 := Lib.hid (BS14.out.step hm15)
      have BX15 := Lib.hid (BX14.out.step hm15)
      clear h hm15 H14 BS14 BX14
      clear hX hY
      go_wp2_with (show wpList _ _ _ ({ dst := none, op := .store 84 (.tmp 23) (.tmp 88), type := _, pos := _, after := _, guard := _ } :: _) _ _; apply Classical.byContradiction; intro hneg)
      refine hneg ?_
      clear hneg
      refine wpList_store_row rfl 84 (.tmp 23) (.tmp 88) rfl w15.heap.size #[.int .i64 (Y.r : Int), .int .i64 ((0 : Nat) : Int), .int .i64 (Y.l : Int)] rfl rfl 84 #[.int .i64 0, .int .i64 0, .int .i64 0] (heap_alloc_new _ _) rep_info rfl (by simp [Value.oneCell']) ?_
      obtain ⟨w16, hw16⟩ : ∃ w16, w16 = (w15.alloc (.cells #[.int .i64 0, .int .i64 0, .int .i64 0] 84)).setRow w15.heap.size #[.int .i64 (Y.r : Int), .int .i64 ((0 : Nat) : Int), .int .i64 (Y.l : Int)] := ⟨_, rfl⟩
      have bw : Below w15.heap.size w15 w16 := by rw [hw16]; exact below_setRow ((Below.refl _ _).alloc (Nat.le_refl _) _) (Nat.le_refl _) _
      have hbx : Blk w16 w15.heap.size #[.int .i64 (Y.r : Int), .int .i64 ((0 : Nat) : Int), .int .i64 (Y.l : Int)] 84 := by rw [hw16]; exact setRow_heap _ _ _ _ _ _ (heap_alloc_new _ _)
      rw [← hw16]
      clear hw16
      obtain ⟨b16, hb16⟩ : ∃ b16, b16 = w15.heap.size := ⟨_, rfl⟩
      rw [← hb16] at hbx
      rw [← hb16]
      have BR16 := Lib.hid (show Bx w1 w16 F15 b16 #[.int .i64 (Y.r : Int), .int .i64 ((0 : Nat) : Int), .int .i64 (Y.l : Int)] 84 from ⟨hbx, by rw [hb16]; exact H15.out.live.bel.size, fun hf => by have := (ML (Two p1 g1 p2 g2) (gdS litS fb) g).lt H15.out.live.at_ _ hf; omega⟩)
      clear hb16 hbx
      have H16 := Lib.hid (H15.out.below bw)
      have BS16 := Lib.hid (BS15.out.below bw)
      have BX16 := Lib.hid (BX15.out.below bw)
      clear bw H15 BS15 BX15
      go_wp2_with fail
      have hc := lm_flush H16.out
      rw [if_neg (show ¬ (X.o0 && X.o1) = true by rw [FR.out.o0, FR.out.o1]; simp)] at hc
      refine hc.mono ?_
      clear hc
      rintro e w17 ⟨rfl, s17, F17, h, hm17⟩
      have H17 := Lib.hid (show LM p1 g1 p2 g2 (gdS litS fb) g w1 w17 s17 F17 X 0 from h)
      have BS17 := Lib.hid (BS16.out.step hm17)
      have BX17 := Lib.hid (BX16.out.step hm17)
      have BR17 := Lib.hid (BR16.out.step hm17)
      clear h hm17 H16 BS16 BX16 BR16
      go_wp2_with fail
      have hc := lm_dump0S H17.out
      rw [FR.out.len] at hc
      refine hc.mono ?_
      clear hc
      rintro e w18 ⟨U, cU, rfl, ho, hok, bw⟩
      have hln : X.l0.length = 3 := FR.out.n0
      have RU := Lib.hid (sec_at (Rd.ownN ho) hok (q := 1) (by rw [hln]; omega) L0E.out)
      clear ho hok hln
      have H18 := Lib.hid (H17.out.below bw)
      have BS18 := Lib.hid (BS17.out.below bw)
      have BX18 := Lib.hid (BX17.out.below bw)
      have BR18 := Lib.hid (BR17.out.below bw)
      clear bw H17 BS17 BX17 BR17
      go_wp2_with fail
      have hc := lm_dump1S H18.out
      rw [FR.out.len] at hc
      refine hc.mono ?_
      clear hc
      rintro e w19 ⟨V, cV, rfl, ho, hok, bw⟩
      have hln : X.l1.length = 3 := FR.out.n1
      have RV := Lib.hid (sec_at (Rd.ownN ho) hok (q := 1) (by rw [hln]; omega) L1E.out)
      clear ho hok hln
      have BW2 := Lib.hid bw
      have H19 := Lib.hid (H18.out.below bw)
      have BS19 := Lib.hid (BS18.out.below bw)
      have BX19 := Lib.hid (BX18.out.below bw)
      have BR19 := Lib.hid (BR18.out.below bw)
      clear bw H18 BS18 BX18 BR18
      obtain ⟨au, hau, CU⟩ := RU.out
      obtain ⟨av, hav, CV⟩ := RV.out
      subst hau hav
      have HCU := Lib.hid (show ∀ w', Below w19.heap.size w19 w' → ∀ jj v, (bv s)[jj]? = some v → w'.cell? ((au.add (1 * 128)).add jj) = some v from fun w' hb => CU w' (BW2.out.trans (hb.mono BW2.out.size)))
      have HCV := Lib.hid CV
      clear CU CV RU RV
      have mz := HMZ.out
      go_upto_region 26 with fail
      refine wp_region_held_drew (S := fun w' => Below w19.heap.size w19 w') (by kernel_rfl) (Below.refl _ _).drew (fun hh => ?_)
      have HH := Lib.hid hh
      clear hh
      refine wpAnyH_take (i := 0) (v := ?vTan0) rfl (by kernel_rfl) (by kernel_rfl) (by kernel_rfl) (fun _ _ _ h => h) (Or.inl ⟨by rfl, fun w' _ => ?yTan0⟩) HH.out ?_
      case yTan0 => (go_simp; try with_reducible rfl)
      refine wpAnyH_take (i := 1) (v := ?vTan1) rfl (by kernel_rfl) (by kernel_rfl) (by kernel_rfl) (fun _ _ _ h => h) (Or.inl ⟨by rfl, fun w' _ => ?yTan1⟩) HH.out ?_
      case yTan1 => (go_simp; try with_reducible rfl)
      try simp only [List.getElem_toArray, List.getElem_cons_succ, List.getElem_cons_zero, Act.put, List.setIfInBounds_toArray, List.set_cons_zero, List.set_cons_succ]
      refine wpAnyH_take (i := 2) (v := ?vTan2) rfl (by kernel_rfl) (by kernel_rfl) (by kernel_rfl) (fun _ _ _ h => h) (Or.inl ⟨by rfl, fun w' _ => ?yTan2⟩) HH.out ?_
      case yTan2 => (go_simp; try with_reducible rfl)
      try simp only [List.getElem_toArray, List.getElem_cons_succ, List.getElem_cons_zero, Act.put, List.setIfInBounds_toArray, List.set_cons_zero, List.set_cons_succ]
      refine wpAnyH_take (i := 3) (v := .agg (bva s)) rfl (by kernel_rfl) (by kernel_rfl) (by kernel_rfl) (fun _ _ _ h => h) (Or.inl ⟨by rfl, fun w' hw' => ?yTan3⟩) HH.out ?_
      case yTan3 => exact exec_load 38 (.tmp 21) rfl rfl (BX19.out.1.below hw') Try.underlying38 rfl HIS.out
      try simp only [List.getElem_toArray, List.getElem_cons_succ, List.getElem_cons_zero, Act.put, List.setIfInBounds_toArray, List.set_cons_zero, List.set_cons_succ]
      refine wpAnyH_take (i := 4) (v := .agg (bva s)) rfl (by kernel_rfl) (by kernel_rfl) (by kernel_rfl) (fun _ _ _ h => h) (Or.inl ⟨by rfl, fun w' hw' => ?yTan4⟩) HH.out ?_
      case yTan4 => exact exec_load 38 (.tmp 14) rfl rfl (BS19.out.1.below hw') Try.underlying38 rfl HIS.out
      try simp only [List.getElem_toArray, List.getElem_cons_succ, List.getElem_cons_zero, Act.put, List.setIfInBounds_toArray, List.set_cons_zero, List.set_cons_succ]
      refine wpAnyH_take (i := 5) (v := ?vTan5) rfl (by kernel_rfl) (by kernel_rfl) (by kernel_rfl) (fun _ _ _ h => h) (Or.inl ⟨by rfl, fun w' _ => ?yTan5⟩) HH.out ?_
      case yTan5 => (go_simp; try with_reducible rfl)
      refine wpAnyH_take (i := 6) (v := ?vTan6) rfl (by kernel_rfl) (by kernel_rfl) (by kernel_rfl) (fun _ _ _ h => h) (Or.inl ⟨by rfl, fun w' _ => ?yTan6⟩) HH.out ?_
      case yTan6 => (go_simp; try with_reducible rfl)
      refine wpAnyH_take (i := 7) (v := ?vTan7) rfl (by kernel_rfl) (by kernel_rfl) (by kernel_rfl) (fun _ _ _ h => h) (Or.inl ⟨by rfl, fun w' _ => ?yTan7⟩) HH.out ?_
      case yTan7 => (go_simp; try with_reducible rfl)
      try simp only [List.getElem_toArray, List.getElem_cons_succ, List.getElem_cons_zero, Act.put, List.setIfInBounds_toArray, List.set_cons_zero, List.set_cons_succ]
      refine wpAnyH_take (i := 8) (v := ?vTan8) rfl (by kernel_rfl) (by kernel_rfl) (by kernel_rfl) (fun _ _ _ h => h) (Or.inl ⟨by rfl, fun w' _ => ?yTan8⟩) HH.out ?_
      case yTan8 => (go_simp; try with_reducible rfl)
      try simp only [List.getElem_toArray, List.getElem_cons_succ, List.getElem_cons_zero, Act.put, List.setIfInBounds_toArray, List.set_cons_zero, List.set_cons_succ]
      refine wpAnyH_take (i := 9) (v := .int .i64 ((0 : Nat) : Int)) rfl (by kernel_rfl) (by kernel_rfl) (by kernel_rfl) (fun _ _ _ h => h) (Or.inl ⟨by rfl, fun w' hw' => ?yTan9⟩) HH.out ?_
      case yTan9 => (have hc : w'.cell? ⟨b16, 1, none⟩ = some (.int .i64 ((0 : Nat) : Int)) := (BR19.out.1.below hw').cell 1; go_simp; try with_reducible rfl)
      try simp only [List.getElem_toArray, List.getElem_cons_succ, List.getElem_cons_zero, Act.put, List.setIfInBounds_toArray, List.set_cons_zero, List.set_cons_succ]
      refine wpAnyH_take (i := 10) (v := ?vTan10) rfl (by kernel_rfl) (by kernel_rfl) (by kernel_rfl) (fun _ _ _ h => h) (Or.inl ⟨by rfl, fun w' _ => ?yTan10⟩) HH.out ?_
      case yTan10 => (go_simp; try with_reducible rfl)
      try simp only [List.getElem_toArray, List.getElem_cons_succ, List.getElem_cons_zero, Act.put, List.setIfInBounds_toArray, List.set_cons_zero, List.set_cons_succ]
      refine wpAnyH_take (i := 11) (v := ?vTan11) rfl (by kernel_rfl) (by kernel_rfl) (by kernel_rfl) (fun _ _ _ h => h) (Or.inl ⟨by rfl, fun w' _ => ?yTan11⟩) HH.out ?_
      case yTan11 => (go_simp; try with_reducible rfl)
      refine wpAnyH_take (i := 12) (v := ?vTan12) rfl (by kernel_rfl) (by kernel_rfl) (by kernel_rfl) (fun _ _ _ h => h) (Or.inl ⟨by rfl, fun w' _ => ?yTan12⟩) HH.out ?_
      case yTan12 => (go_simp; try with_reducible rfl)
      refine wpAnyH_take (i := 13) (v := ?vTan13) rfl (by kernel_rfl) (by kernel_rfl) (by kernel_rfl) (fun _ _ _ h => h) (Or.inl ⟨by rfl, fun w' _ => ?yTan13⟩) HH.out ?_
      case yTan13 => (go_simp; try with_reducible rfl)
      try simp only [List.getElem_toArray, List.getElem_cons_succ, List.getElem_cons_zero, Act.put, List.setIfInBounds_toArray, List.set_cons_zero, List.set_cons_succ]
      refine wpAnyH_take (i := 14) (v := ?vTan14) rfl (by kernel_rfl) (by kernel_rfl) (by kernel_rfl) (fun _ _ _ h => h) (Or.inl ⟨by rfl, fun w' _ => ?yTan14⟩) HH.out ?_
      case yTan14 => (go_simp; try with_reducible rfl)
      try simp only [List.getElem_toArray, List.getElem_cons_succ, List.getElem_cons_zero, Act.put, List.setIfInBounds_toArray, List.set_cons_zero, List.set_cons_succ]
      refine wpAnyH_take (i := 15) (v := ?vTan15) rfl (by kernel_rfl) (by kernel_rfl) (by kernel_rfl) (fun _ _ _ h => h) (Or.inl ⟨by rfl, fun w' _ => ?yTan15⟩) HH.out ?_
      case yTan15 => (go_simp; try with_reducible rfl)
      try simp only [List.getElem_toArray, List.getElem_cons_succ, List.getElem_cons_zero, Act.put, List.setIfInBounds_toArray, List.set_cons_zero, List.set_cons_succ]
      refine wpAnyH_take (i := 16) (v := .agg (bva s)) rfl (by kernel_rfl) (by kernel_rfl) (by kernel_rfl) (fun _ _ _ h => h) (Or.inl ⟨by rfl, fun w' hw' => ?yTan16⟩) HH.out ?_
      case yTan16 => exact exec_load_at 38 (.tmp 112) rfl (au.add (1 * 128)) rfl (HCU.out w' hw') Try.underlying38 rfl HISL.out
      try simp only [List.getElem_toArray, List.getElem_cons_succ, List.getElem_cons_zero, Act.put, List.setIfInBounds_toArray, List.set_cons_zero, List.set_cons_succ]
      try simp only [List.getElem_toArray, List.getElem_cons_succ, List.getElem_cons_zero, Act.put, List.setIfInBounds_toArray, List.set_cons_zero, List.set_cons_succ]
      refine wpAnyH_take (i := 17) (v := .agg (bva s)) rfl (by kernel_rfl) (by kernel_rfl) (by kernel_rfl) (fun _ _ _ h => h) (Or.inl ⟨by rfl, fun w' hw' => ?yTan17⟩) HH.out ?_
      case yTan17 => exact exec_load 38 (.tmp 14) rfl rfl (BS19.out.1.below hw') Try.underlying38 rfl HIS.out
      try simp only [List.getElem_toArray, List.getElem_cons_succ, List.getElem_cons_zero, Act.put, List.setIfInBounds_toArray, List.set_cons_zero, List.set_cons_succ]
      refine wpAnyH_take (i := 18) (v := ?vTan18) rfl (by kernel_rfl) (by kernel_rfl) (by kernel_rfl) (fun _ _ _ h => h) (Or.inl ⟨by rfl, fun w' _ => ?yTan18⟩) HH.out ?_
      case yTan18 => (go_simp; try with_reducible rfl)
      refine wpAnyH_take (i := 19) (v := ?vTan19) rfl (by kernel_rfl) (by kernel_rfl) (by kernel_rfl) (fun _ _ _ h => h) (Or.inl ⟨by rfl, fun w' _ => ?yTan19⟩) HH.out ?_
      case yTan19 => (go_simp; try with_reducible rfl)
      try simp only [List.getElem_toArray, List.getElem_cons_succ, List.getElem_cons_zero, Act.put, List.setIfInBounds_toArray, List.set_cons_zero, List.set_cons_succ]
      refine wpAnyH_take (i := 20) (v := ?vTan20) rfl (by kernel_rfl) (by kernel_rfl) (by kernel_rfl) (fun _ _ _ h => h) (Or.inl ⟨by rfl, fun w' _ => ?yTan20⟩) HH.out ?_
      case yTan20 => (go_simp; try with_reducible rfl)
      try simp only [List.getElem_toArray, List.getElem_cons_succ, List.getElem_cons_zero, Act.put, List.setIfInBounds_toArray, List.set_cons_zero, List.set_cons_succ]
      refine wpAnyH_take (i := 21) (v := ?vTan21) rfl (by kernel_rfl) (by kernel_rfl) (by kernel_rfl) (fun _ _ _ h => h) (Or.inl ⟨by rfl, fun w' _ => ?yTan21⟩) HH.out ?_
      case yTan21 => (go_simp; try with_reducible rfl)
      try simp only [List.getElem_toArray, List.getElem_cons_succ, List.getElem_cons_zero, Act.put, List.setIfInBounds_toArray, List.set_cons_zero, List.set_cons_succ]
      refine wpAnyH_take (i := 22) (v := ?vTan22) rfl (by kernel_rfl) (by kernel_rfl) (by kernel_rfl) (fun _ _ _ h => h) (Or.inl ⟨by rfl, fun w' _ => ?yTan22⟩) HH.out ?_
      case yTan22 => (go_simp; try with_reducible rfl)
      try simp only [List.getElem_toArray, List.getElem_cons_succ, List.getElem_cons_zero, Act.put, List.setIfInBounds_toArray, List.set_cons_zero, List.set_cons_succ]
      try simp only [List.getElem_toArray, List.getElem_cons_succ, List.getElem_cons_zero, Act.put, List.setIfInBounds_toArray, List.set_cons_zero, List.set_cons_succ]
      refine wpAnyH_take (i := 23) (v := .agg (bva s)) rfl (by kernel_rfl) (by kernel_rfl) (by kernel_rfl) (fun _ _ _ h => h) (Or.inl ⟨by rfl, fun w' hw' => ?yTan23⟩) HH.out ?_
      case yTan23 => exact exec_load_at 38 (.tmp 119) rfl (av.add (1 * 128)) rfl (HCV.out w' hw') Try.underlying38 rfl HISL.out
      try simp only [List.getElem_toArray, List.getElem_cons_succ, List.getElem_cons_zero, Act.put, List.setIfInBounds_toArray, List.set_cons_zero, List.set_cons_succ]
      refine wpAnyH_take (i := 24) (v := .agg (bva s)) rfl (by kernel_rfl) (by kernel_rfl) (by kernel_rfl) (fun _ _ _ h => h) (Or.inl ⟨by rfl, fun w' hw' => ?yTan24⟩) HH.out ?_
      case yTan24 => exact exec_load 38 (.tmp 14) rfl rfl (BS19.out.1.below hw') Try.underlying38 rfl HIS.out
      try simp only [List.getElem_toArray, List.getElem_cons_succ, List.getElem_cons_zero, Act.put, List.setIfInBounds_toArray, List.set_cons_zero, List.set_cons_succ]
      refine wpAnyH_take (i := 25) (v := ?vTan25) rfl (by kernel_rfl) (by kernel_rfl) (by kernel_rfl) (fun _ _ _ h => h) (Or.inl ⟨by rfl, fun w' _ => ?yTan25⟩) HH.out ?_
      case yTan25 => (go_simp; try with_reducible rfl)
      try simp only [List.getElem_toArray, List.getElem_cons_succ, List.getElem_cons_zero, Act.put, List.setIfInBounds_toArray, List.set_cons_zero, List.set_cons_succ]
      refine wpAnyH_take (i := 26) (v := ?vTan26) rfl (by kernel_rfl) (by kernel_rfl) (by kernel_rfl) (fun _ _ _ h => h) (Or.inl ⟨by rfl, fun w' _ => ?yTan26⟩) HH.out ?_
      case yTan26 => (go_simp; try with_reducible rfl)
      refine wpAnyH_take (i := 27) (v := ?vTan27) rfl (by kernel_rfl) (by kernel_rfl) (by kernel_rfl) (fun _ _ _ h => h) (Or.inl ⟨by rfl, fun w' _ => ?yTan27⟩) HH.out ?_
      case yTan27 => (go_simp; try with_reducible rfl)
      try simp only [List.getElem_toArray, List.getElem_cons_succ, List.getElem_cons_zero, Act.put, List.setIfInBounds_toArray, List.set_cons_zero, List.set_cons_succ]
      refine wpAnyH_done (by kernel_rfl) ?_ _
      go_wp2_with fail
      go_ret
      exact ⟨by rfl, (B1.out.trans (H19.out.live.bel.mono B1.out.size)).trans (HH.out.mono (B1.out.trans (H19.out.live.bel.mono B1.out.size)).size)⟩
    ·
      have hts : ¬ t = s := by rw [HT.out]; exact rotS_ne (by rw [HS3.out]; exact HQ.out) hmz
      have HMZ := Lib.hid (show ¬ (mb.toNat : Int) = 0 from fun e => hmz (UInt8.toNat_inj.1 (by show mb.toNat = 0; omega)))
      have heqt : ∀ W, (Op.equalIn 10000 38 (.agg (bva t)) (.agg (bva s))).run Try.prog W = .ok false W := fun W => by rw [HTS.out, decide_eq_false hts]
      have HNS := Lib.hid hts
      clear hts hmz
      go_upto_region 15 with fail
      refine wp_region_held_drew (S := fun w' => Below w11.heap.size w11 w') (by kernel_rfl) (Below.refl _ _).drew (fun hh => ?_)
      have HH := Lib.hid hh
      clear hh
      refine wpAnyH_take (i := 0) (v := ?vRan0) rfl (by kernel_rfl) (by kernel_rfl) (by kernel_rfl) (fun _ _ _ h => h) (Or.inl ⟨by rfl, fun w' _ => ?yRan0⟩) HH.out ?_
      case yRan0 => (go_simp; try with_reducible rfl)
      refine wpAnyH_take (i := 1) (v := ?vRan1) rfl (by kernel_rfl) (by kernel_rfl) (by kernel_rfl) (fun _ _ _ h => h) (Or.inl ⟨by rfl, fun w' _ => ?yRan1⟩) HH.out ?_
      case yRan1 => (go_simp; try with_reducible rfl)
      try simp only [List.getElem_toArray, List.getElem_cons_succ, List.getElem_cons_zero, Act.put, List.setIfInBounds_toArray, List.set_cons_zero, List.set_cons_succ]
      try simp only [List.getElem_toArray, List.getElem_cons_succ, List.getElem_cons_zero, Act.put, List.setIfInBounds_toArray, List.set_cons_zero, List.set_cons_succ]
      refine wpAnyH_take (i := 2) (v := .agg (bva t)) rfl (by kernel_rfl) (by kernel_rfl) (by kernel_rfl) (fun _ _ _ h => h) (Or.inl ⟨by rfl, fun w' hw' => ?yRan2⟩) HH.out ?_
      case yRan2 => exact exec_load_at 38 (.tmp 69) rfl (au.add (1 * 128)) rfl (HCU.out w' hw') Try.underlying38 rfl HITL.out
      try simp only [List.getElem_toArray, List.getElem_cons_succ, List.getElem_cons_zero, Act.put, List.setIfInBounds_toArray, List.set_cons_zero, List.set_cons_succ]
      refine wpAnyH_take (i := 3) (v := .agg (bva s)) rfl (by kernel_rfl) (by kernel_rfl) (by kernel_rfl) (fun _ _ _ h => h) (Or.inl ⟨by rfl, fun w' hw' => ?yRan3⟩) HH.out ?_
      case yRan3 => exact exec_load 38 (.tmp 14) rfl rfl (BS11.out.1.below hw') Try.underlying38 rfl HIS.out
      refine wpAnyH_take (i := 4) (v := ?vRan4) rfl (by kernel_rfl) (by kernel_rfl) (by kernel_rfl) (fun _ _ _ h => h) (Or.inl ⟨by rfl, fun w' _ => ?yRan4⟩) HH.out ?_
      case yRan4 => (go_simp; try with_reducible rfl)
      try simp only [List.getElem_toArray, List.getElem_cons_succ, List.getElem_cons_zero, Act.put, List.setIfInBounds_toArray, List.set_cons_zero, List.set_cons_succ]
      refine wpAnyH_done (by kernel_rfl) ?_ _
      have bw := HH.out
      cases hft : okS litSumL 1 t with
      | true =>
        have HCU2 := Lib.hid (show ∀ W, Calls Try.prog 55 #[.int .i64 1, .agg (bva t)] W (RetU (unpackS litSumL 1 t).1 (unpackS litSumL 1 t).2 true W) from fun W => by
          have h := runpack_any 1 t HT3.out W
          rw [hft] at h; exact h)
        clear hft
        go_wp2_with (refine wpList_execg8 rfl (exec_load_at 38 (.tmp 75) rfl (au.add (1 * 128)) rfl (HCU.out _ bw) Try.underlying38 rfl HITL.out) ?_)
        refine (HCU2.out _).mono ?_
        rintro e wz ⟨Az, nz, cz, rfl, _, bz⟩
        go_wp2_with fail
        go_ret
        exact ⟨rfl, (B1.out.trans (H11.out.live.bel.mono B1.out.size)).trans ((bw.trans (bz.mono bw.size)).mono (B1.out.trans (H11.out.live.bel.mono B1.out.size)).size)⟩
      | false =>
        have HFT := Lib.hid (show okS litSumL 1 t = false ∨ t = s from .inl hft)
        have HCK := Lib.hid (show (if ck (gdS litS fb).f 1 t s = 1 then 1 else 0) = 1 from by
          have h1 : (gdS litS fb).f ((1 : Nat) : Int) t = false := hft
          have h2 : (gdS litS fb).f ((1 : Nat) : Int) s = true := HFS.out
          have h3 : ck (gdS litS fb).f 1 t s = 1 := by unfold ck; rw [h1, h2]; rfl
          rw [if_pos h3])
        have HHL := Lib.hid (show hl0 (gdS litS fb).f 1 t s = s ∧ hl1 (gdS litS fb).f 1 t s = s from by
          have h1 : (gdS litS fb).f ((1 : Nat) : Int) t = false := hft
          have h2 : (gdS litS fb).f ((1 : Nat) : Int) s = true := HFS.out
          unfold hl0 hl1; rw [h1, h2]; exact ⟨rfl, rfl⟩)
        have HCU2 := Lib.hid (show ∀ W, Calls Try.prog 55 #[.int .i64 1, .agg (bva t)] W (RetU (unpackS litSumL 1 t).1 (unpackS litSumL 1 t).2 false W) from fun W => by
          have h := runpack_any 1 t HT3.out W
          rw [hft] at h; exact h)
        clear hft
        go_wp2_with (refine wpList_execg8 rfl (exec_load_at 38 (.tmp 75) rfl (au.add (1 * 128)) rfl (HCU.out _ bw) Try.underlying38 rfl HITL.out) ?_)
        refine (HCU2.out _).mono ?_
        rintro e w22 ⟨Az, nz, cz, rfl, _, bz⟩
        have bw2 := bw.trans (bz.mono bw.size)
        clear bw bz HH
        have bw := bw2
        clear bw2 HCU HCU2
        have H22 := Lib.hid (H11.out.below bw)
        have BS22 := Lib.hid (BS11.out.below bw)
        clear bw H11 BS11

        go_wp2_with fail
        have hc := lm_read H22.out (1 : Int)
        rw [show Md.read (gdS litS fb).f (startM (three t) (three s) 3) 1 = (s, 0) from three_read0 HFS.out HFT.out] at hc
        refine hc.mono ?_
        clear hc
        rintro e w23 ⟨rfl, s23, F23, h, hm23⟩
        have H23 := Lib.hid (show LM p1 g1 p2 g2 (gdS litS fb) g w1 w23 s23 F23 (startM (three t) (three s) 3) 0 from h)
        have BS23 := Lib.hid (BS22.out.step hm23)
        clear h hm23 H22 BS22
        go_wp2_with (show wpList _ _ _ ({ dst := none, op := .store 38 (.tmp 21) (.tmp 85), type := _, pos := _, after := _, guard := _ } :: _) _ _; apply Classical.byContradiction; intro hneg)
        refine hneg ?_
        clear hneg
        refine wpList_store_row rfl 38 (.tmp 21) (.tmp 85) rfl w23.heap.size (bva s) rfl rfl 38 (bva z) (heap_alloc_new _ _) HIS.out (by rw [bva_size, bva_size, HS3.out, HZ3.out]) (bva_one _) ?_
        obtain ⟨w24, hw24⟩ : ∃ w24, w24 = (w23.alloc (.cells (bva z) 38)).setRow w23.heap.size (bva s) := ⟨_, rfl⟩
        have bw : Below w23.heap.size w23 w24 := by rw [hw24]; exact below_setRow ((Below.refl _ _).alloc (Nat.le_refl _) _) (Nat.le_refl _) _
        have hbx : Blk w24 w23.heap.size (bva s) 38 := by rw [hw24]; exact setRow_heap _ _ _ _ _ _ (heap_alloc_new _ _)
        rw [← hw24]
        clear hw24
        obtain ⟨b24, hb24⟩ : ∃ b24, b24 = w23.heap.size := ⟨_, rfl⟩
        rw [← hb24] at hbx
        rw [← hb24]
        have BX24 := Lib.hid (show Bx w1 w24 F23 b24 (bva s) 38 from ⟨hbx, by rw [hb24]; exact H23.out.live.bel.size, fun hf => by have := (ML (Two p1 g1 p2 g2) (gdS litS fb) g).lt H23.out.live.at_ _ hf; omega⟩)
        clear hb24 hbx
        have H24 := Lib.hid (H23.out.below bw)
        have BS24 := Lib.hid (BS23.out.below bw)
        clear bw H23 BS23
        obtain ⟨X, hX⟩ : ∃ X, X = (mdRun (gdS litS fb).f ((startM (three t) (three s) 3), Wk.zero) 3).1 := ⟨_, rfl⟩
        obtain ⟨Y, hY⟩ : ∃ Y, Y = (mdRun (gdS litS fb).f ((startM (three t) (three s) 3), Wk.zero) 3).2 := ⟨_, rfl⟩
        have h3 := three_all (f := (gdS litS fb).f) (a := t) (b := s) (s := s) HHL.out
        rw [← hX, ← hY] at h3
        obtain ⟨⟨L0e, L1e⟩, fr, hh⟩ := h3
        have L0E := Lib.hid L0e
        have L1E := Lib.hid L1e
        have FR := Lib.hid fr
        have HHV := Lib.hid (show Y.h = 1 from by rw [hh]; exact HCK.out)
        clear L0e L1e fr hh
        go_wp2_with fail
        have hc := lm_all2 H24.out (by rw [start_len]; omega) (by omega)
        rw [start_len, ← hX, ← hY, show Y.rep = #[.int .i64 Y.r, .int .i64 Y.h, .int .i64 Y.l] from rfl, HHV.out] at hc
        refine hc.mono ?_
        clear hc
        rintro e w25 ⟨rfl, s25, F25, h, hm25⟩
        have H25 := Lib.hid (show LM p1 g1 p2 g2 (gdS litS fb) g w1 w25 s25 F25 X (0 + 3) from h)
        have BS25 := Lib.hid (BS24.out.step hm25)
        have BX25 := Lib.hid (BX24.out.step hm25)
        clear h hm25 H24 BS24 BX24
        clear hX hY
        go_wp2_with (show wpList _ _ _ ({ dst := none, op := .store 84 (.tmp 23) (.tmp 88), type := _, pos := _, after := _, guard := _ } :: _) _ _; apply Classical.byContradiction; intro hneg)
        refine hneg ?_
        clear hneg
        refine wpList_store_row rfl 84 (.tmp 23) (.tmp 88) rfl w25.heap.size #[.int .i64 (Y.r : Int), .int .i64 ((1 : Nat) : Int), .int .i64 (Y.l : Int)] rfl rfl 84 #[.int .i64 0, .int .i64 0, .int .i64 0] (heap_alloc_new _ _) rep_info rfl (by simp [Value.oneCell']) ?_
        obtain ⟨w26, hw26⟩ : ∃ w26, w26 = (w25.alloc (.cells #[.int .i64 0, .int .i64 0, .int .i64 0] 84)).setRow w25.heap.size #[.int .i64 (Y.r : Int), .int .i64 ((1 : Nat) : Int), .int .i64 (Y.l : Int)] := ⟨_, rfl⟩
        have bw : Below w25.heap.size w25 w26 := by rw [hw26]; exact below_setRow ((Below.refl _ _).alloc (Nat.le_refl _) _) (Nat.le_refl _) _
        have hbx : Blk w26 w25.heap.size #[.int .i64 (Y.r : Int), .int .i64 ((1 : Nat) : Int), .int .i64 (Y.l : Int)] 84 := by rw [hw26]; exact setRow_heap _ _ _ _ _ _ (heap_alloc_new _ _)
        rw [← hw26]
        clear hw26
        obtain ⟨b26, hb26⟩ : ∃ b26, b26 = w25.heap.size := ⟨_, rfl⟩
        rw [← hb26] at hbx
        rw [← hb26]
        have BR26 := Lib.hid (show Bx w1 w26 F25 b26 #[.int .i64 (Y.r : Int), .int .i64 ((1 : Nat) : Int), .int .i64 (Y.l : Int)] 84 from ⟨hbx, by rw [hb26]; exact H25.out.live.bel.size, fun hf => by have := (ML (Two p1 g1 p2 g2) (gdS litS fb) g).lt H25.out.live.at_ _ hf; omega⟩)
        clear hb26 hbx
        have H26 := Lib.hid (H25.out.below bw)
        have BS26 := Lib.hid (BS25.out.below bw)
        have BX26 := Lib.hid (BX25.out.below bw)
        clear bw H25 BS25 BX25
        go_wp2_with fail
        have hc := lm_flush H26.out
        rw [if_neg (show ¬ (X.o0 && X.o1) = true by rw [FR.out.o0, FR.out.o1]; simp)] at hc
        refine hc.mono ?_
        clear hc
        rintro e w27 ⟨rfl, s27, F27, h, hm27⟩
        have H27 := Lib.hid (show LM p1 g1 p2 g2 (gdS litS fb) g w1 w27 s27 F27 X 0 from h)
        have BS27 := Lib.hid (BS26.out.step hm27)
        have BX27 := Lib.hid (BX26.out.step hm27)
        have BR27 := Lib.hid (BR26.out.step hm27)
        clear h hm27 H26 BS26 BX26 BR26
        go_wp2_with fail
        have hc := lm_dump0S H27.out
        rw [FR.out.len] at hc
        refine hc.mono ?_
        clear hc
        rintro e w28 ⟨U, cU, rfl, ho, hok, bw⟩
        have hln : X.l0.length = 3 := FR.out.n0
        have RU := Lib.hid (sec_at (Rd.ownN ho) hok (q := 1) (by rw [hln]; omega) L0E.out)
        clear ho hok hln
        have H28 := Lib.hid (H27.out.below bw)
        have BS28 := Lib.hid (BS27.out.below bw)
        have BX28 := Lib.hid (BX27.out.below bw)
        have BR28 := Lib.hid (BR27.out.below bw)
        clear bw H27 BS27 BX27 BR27
        go_wp2_with fail
        have hc := lm_dump1S H28.out
        rw [FR.out.len] at hc
        refine hc.mono ?_
        clear hc
        rintro e w29 ⟨V, cV, rfl, ho, hok, bw⟩
        have hln : X.l1.length = 3 := FR.out.n1
        have RV := Lib.hid (sec_at (Rd.ownN ho) hok (q := 1) (by rw [hln]; omega) L1E.out)
        clear ho hok hln
        have BW2 := Lib.hid bw
        have H29 := Lib.hid (H28.out.below bw)
        have BS29 := Lib.hid (BS28.out.below bw)
        have BX29 := Lib.hid (BX28.out.below bw)
        have BR29 := Lib.hid (BR28.out.below bw)
        clear bw H28 BS28 BX28 BR28
        obtain ⟨au, hau, CU⟩ := RU.out
        obtain ⟨av, hav, CV⟩ := RV.out
        subst hau hav
        have HCU := Lib.hid (show ∀ w', Below w29.heap.size w29 w' → ∀ jj v, (bv s)[jj]? = some v → w'.cell? ((au.add (1 * 128)).add jj) = some v from fun w' hb => CU w' (BW2.out.trans (hb.mono BW2.out.size)))
        have HCV := Lib.hid CV
        clear CU CV RU RV
        have mz := HMZ.out
        go_upto_region 26 with fail
        refine wp_region_held_drew (S := fun w' => Below w29.heap.size w29 w') (by kernel_rfl) (Below.refl _ _).drew (fun hh => ?_)
        have HH := Lib.hid hh
        clear hh
        refine wpAnyH_take (i := 0) (v := ?vTah0) rfl (by kernel_rfl) (by kernel_rfl) (by kernel_rfl) (fun _ _ _ h => h) (Or.inl ⟨by rfl, fun w' _ => ?yTah0⟩) HH.out ?_
        case yTah0 => (go_simp; try with_reducible rfl)
        refine wpAnyH_take (i := 1) (v := ?vTah1) rfl (by kernel_rfl) (by kernel_rfl) (by kernel_rfl) (fun _ _ _ h => h) (Or.inl ⟨by rfl, fun w' _ => ?yTah1⟩) HH.out ?_
        case yTah1 => (go_simp; try with_reducible rfl)
        try simp only [List.getElem_toArray, List.getElem_cons_succ, List.getElem_cons_zero, Act.put, List.setIfInBounds_toArray, List.set_cons_zero, List.set_cons_succ]
        refine wpAnyH_take (i := 2) (v := ?vTah2) rfl (by kernel_rfl) (by kernel_rfl) (by kernel_rfl) (fun _ _ _ h => h) (Or.inl ⟨by rfl, fun w' _ => ?yTah2⟩) HH.out ?_
        case yTah2 => (go_simp; try with_reducible rfl)
        try simp only [List.getElem_toArray, List.getElem_cons_succ, List.getElem_cons_zero, Act.put, List.setIfInBounds_toArray, List.set_cons_zero, List.set_cons_succ]
        refine wpAnyH_take (i := 3) (v := .agg (bva s)) rfl (by kernel_rfl) (by kernel_rfl) (by kernel_rfl) (fun _ _ _ h => h) (Or.inl ⟨by rfl, fun w' hw' => ?yTah3⟩) HH.out ?_
        case yTah3 => exact exec_load 38 (.tmp 21) rfl rfl (BX29.out.1.below hw') Try.underlying38 rfl HIS.out
        try simp only [List.getElem_toArray, List.getElem_cons_succ, List.getElem_cons_zero, Act.put, List.setIfInBounds_toArray, List.set_cons_zero, List.set_cons_succ]
        refine wpAnyH_take (i := 4) (v := .agg (bva s)) rfl (by kernel_rfl) (by kernel_rfl) (by kernel_rfl) (fun _ _ _ h => h) (Or.inl ⟨by rfl, fun w' hw' => ?yTah4⟩) HH.out ?_
        case yTah4 => exact exec_load 38 (.tmp 14) rfl rfl (BS29.out.1.below hw') Try.underlying38 rfl HIS.out
        try simp only [List.getElem_toArray, List.getElem_cons_succ, List.getElem_cons_zero, Act.put, List.setIfInBounds_toArray, List.set_cons_zero, List.set_cons_succ]
        refine wpAnyH_take (i := 5) (v := ?vTah5) rfl (by kernel_rfl) (by kernel_rfl) (by kernel_rfl) (fun _ _ _ h => h) (Or.inl ⟨by rfl, fun w' _ => ?yTah5⟩) HH.out ?_
        case yTah5 => (go_simp; try with_reducible rfl)
        refine wpAnyH_take (i := 6) (v := ?vTah6) rfl (by kernel_rfl) (by kernel_rfl) (by kernel_rfl) (fun _ _ _ h => h) (Or.inl ⟨by rfl, fun w' _ => ?yTah6⟩) HH.out ?_
        case yTah6 => (go_simp; try with_reducible rfl)
        refine wpAnyH_take (i := 7) (v := ?vTah7) rfl (by kernel_rfl) (by kernel_rfl) (by kernel_rfl) (fun _ _ _ h => h) (Or.inl ⟨by rfl, fun w' _ => ?yTah7⟩) HH.out ?_
        case yTah7 => (go_simp; try with_reducible rfl)
        try simp only [List.getElem_toArray, List.getElem_cons_succ, List.getElem_cons_zero, Act.put, List.setIfInBounds_toArray, List.set_cons_zero, List.set_cons_succ]
        refine wpAnyH_take (i := 8) (v := ?vTah8) rfl (by kernel_rfl) (by kernel_rfl) (by kernel_rfl) (fun _ _ _ h => h) (Or.inl ⟨by rfl, fun w' _ => ?yTah8⟩) HH.out ?_
        case yTah8 => (go_simp; try with_reducible rfl)
        try simp only [List.getElem_toArray, List.getElem_cons_succ, List.getElem_cons_zero, Act.put, List.setIfInBounds_toArray, List.set_cons_zero, List.set_cons_succ]
        refine wpAnyH_take (i := 9) (v := .int .i64 ((1 : Nat) : Int)) rfl (by kernel_rfl) (by kernel_rfl) (by kernel_rfl) (fun _ _ _ h => h) (Or.inl ⟨by rfl, fun w' hw' => ?yTah9⟩) HH.out ?_
        case yTah9 => (have hc : w'.cell? ⟨b26, 1, none⟩ = some (.int .i64 ((1 : Nat) : Int)) := (BR29.out.1.below hw').cell 1; go_simp; try with_reducible rfl)
        try simp only [List.getElem_toArray, List.getElem_cons_succ, List.getElem_cons_zero, Act.put, List.setIfInBounds_toArray, List.set_cons_zero, List.set_cons_succ]
        refine wpAnyH_take (i := 10) (v := ?vTah10) rfl (by kernel_rfl) (by kernel_rfl) (by kernel_rfl) (fun _ _ _ h => h) (Or.inl ⟨by rfl, fun w' _ => ?yTah10⟩) HH.out ?_
        case yTah10 => (go_simp; try with_reducible rfl)
        try simp only [List.getElem_toArray, List.getElem_cons_succ, List.getElem_cons_zero, Act.put, List.setIfInBounds_toArray, List.set_cons_zero, List.set_cons_succ]
        refine wpAnyH_take (i := 11) (v := ?vTah11) rfl (by kernel_rfl) (by kernel_rfl) (by kernel_rfl) (fun _ _ _ h => h) (Or.inl ⟨by rfl, fun w' _ => ?yTah11⟩) HH.out ?_
        case yTah11 => (go_simp; try with_reducible rfl)
        refine wpAnyH_take (i := 12) (v := ?vTah12) rfl (by kernel_rfl) (by kernel_rfl) (by kernel_rfl) (fun _ _ _ h => h) (Or.inl ⟨by rfl, fun w' _ => ?yTah12⟩) HH.out ?_
        case yTah12 => (go_simp; try with_reducible rfl)
        refine wpAnyH_take (i := 13) (v := ?vTah13) rfl (by kernel_rfl) (by kernel_rfl) (by kernel_rfl) (fun _ _ _ h => h) (Or.inl ⟨by rfl, fun w' _ => ?yTah13⟩) HH.out ?_
        case yTah13 => (go_simp; try with_reducible rfl)
        try simp only [List.getElem_toArray, List.getElem_cons_succ, List.getElem_cons_zero, Act.put, List.setIfInBounds_toArray, List.set_cons_zero, List.set_cons_succ]
        refine wpAnyH_take (i := 14) (v := ?vTah14) rfl (by kernel_rfl) (by kernel_rfl) (by kernel_rfl) (fun _ _ _ h => h) (Or.inl ⟨by rfl, fun w' _ => ?yTah14⟩) HH.out ?_
        case yTah14 => (go_simp; try with_reducible rfl)
        try simp only [List.getElem_toArray, List.getElem_cons_succ, List.getElem_cons_zero, Act.put, List.setIfInBounds_toArray, List.set_cons_zero, List.set_cons_succ]
        refine wpAnyH_take (i := 15) (v := ?vTah15) rfl (by kernel_rfl) (by kernel_rfl) (by kernel_rfl) (fun _ _ _ h => h) (Or.inl ⟨by rfl, fun w' _ => ?yTah15⟩) HH.out ?_
        case yTah15 => (go_simp; try with_reducible rfl)
        try simp only [List.getElem_toArray, List.getElem_cons_succ, List.getElem_cons_zero, Act.put, List.setIfInBounds_toArray, List.set_cons_zero, List.set_cons_succ]
        refine wpAnyH_take (i := 16) (v := .agg (bva s)) rfl (by kernel_rfl) (by kernel_rfl) (by kernel_rfl) (fun _ _ _ h => h) (Or.inl ⟨by rfl, fun w' hw' => ?yTah16⟩) HH.out ?_
        case yTah16 => exact exec_load_at 38 (.tmp 112) rfl (au.add (1 * 128)) rfl (HCU.out w' hw') Try.underlying38 rfl HISL.out
        try simp only [List.getElem_toArray, List.getElem_cons_succ, List.getElem_cons_zero, Act.put, List.setIfInBounds_toArray, List.set_cons_zero, List.set_cons_succ]
        try simp only [List.getElem_toArray, List.getElem_cons_succ, List.getElem_cons_zero, Act.put, List.setIfInBounds_toArray, List.set_cons_zero, List.set_cons_succ]
        refine wpAnyH_take (i := 17) (v := .agg (bva s)) rfl (by kernel_rfl) (by kernel_rfl) (by kernel_rfl) (fun _ _ _ h => h) (Or.inl ⟨by rfl, fun w' hw' => ?yTah17⟩) HH.out ?_
        case yTah17 => exact exec_load 38 (.tmp 14) rfl rfl (BS29.out.1.below hw') Try.underlying38 rfl HIS.out
        try simp only [List.getElem_toArray, List.getElem_cons_succ, List.getElem_cons_zero, Act.put, List.setIfInBounds_toArray, List.set_cons_zero, List.set_cons_succ]
        refine wpAnyH_take (i := 18) (v := ?vTah18) rfl (by kernel_rfl) (by kernel_rfl) (by kernel_rfl) (fun _ _ _ h => h) (Or.inl ⟨by rfl, fun w' _ => ?yTah18⟩) HH.out ?_
        case yTah18 => (go_simp; try with_reducible rfl)
        refine wpAnyH_take (i := 19) (v := ?vTah19) rfl (by kernel_rfl) (by kernel_rfl) (by kernel_rfl) (fun _ _ _ h => h) (Or.inl ⟨by rfl, fun w' _ => ?yTah19⟩) HH.out ?_
        case yTah19 => (go_simp; try with_reducible rfl)
        try simp only [List.getElem_toArray, List.getElem_cons_succ, List.getElem_cons_zero, Act.put, List.setIfInBounds_toArray, List.set_cons_zero, List.set_cons_succ]
        refine wpAnyH_take (i := 20) (v := ?vTah20) rfl (by kernel_rfl) (by kernel_rfl) (by kernel_rfl) (fun _ _ _ h => h) (Or.inl ⟨by rfl, fun w' _ => ?yTah20⟩) HH.out ?_
        case yTah20 => (go_simp; try with_reducible rfl)
        try simp only [List.getElem_toArray, List.getElem_cons_succ, List.getElem_cons_zero, Act.put, List.setIfInBounds_toArray, List.set_cons_zero, List.set_cons_succ]
        refine wpAnyH_take (i := 21) (v := ?vTah21) rfl (by kernel_rfl) (by kernel_rfl) (by kernel_rfl) (fun _ _ _ h => h) (Or.inl ⟨by rfl, fun w' _ => ?yTah21⟩) HH.out ?_
        case yTah21 => (go_simp; try with_reducible rfl)
        try simp only [List.getElem_toArray, List.getElem_cons_succ, List.getElem_cons_zero, Act.put, List.setIfInBounds_toArray, List.set_cons_zero, List.set_cons_succ]
        refine wpAnyH_take (i := 22) (v := ?vTah22) rfl (by kernel_rfl) (by kernel_rfl) (by kernel_rfl) (fun _ _ _ h => h) (Or.inl ⟨by rfl, fun w' _ => ?yTah22⟩) HH.out ?_
        case yTah22 => (go_simp; try with_reducible rfl)
        try simp only [List.getElem_toArray, List.getElem_cons_succ, List.getElem_cons_zero, Act.put, List.setIfInBounds_toArray, List.set_cons_zero, List.set_cons_succ]
        try simp only [List.getElem_toArray, List.getElem_cons_succ, List.getElem_cons_zero, Act.put, List.setIfInBounds_toArray, List.set_cons_zero, List.set_cons_succ]
        refine wpAnyH_take (i := 23) (v := .agg (bva s)) rfl (by kernel_rfl) (by kernel_rfl) (by kernel_rfl) (fun _ _ _ h => h) (Or.inl ⟨by rfl, fun w' hw' => ?yTah23⟩) HH.out ?_
        case yTah23 => exact exec_load_at 38 (.tmp 119) rfl (av.add (1 * 128)) rfl (HCV.out w' hw') Try.underlying38 rfl HISL.out
        try simp only [List.getElem_toArray, List.getElem_cons_succ, List.getElem_cons_zero, Act.put, List.setIfInBounds_toArray, List.set_cons_zero, List.set_cons_succ]
        refine wpAnyH_take (i := 24) (v := .agg (bva s)) rfl (by kernel_rfl) (by kernel_rfl) (by kernel_rfl) (fun _ _ _ h => h) (Or.inl ⟨by rfl, fun w' hw' => ?yTah24⟩) HH.out ?_
        case yTah24 => exact exec_load 38 (.tmp 14) rfl rfl (BS29.out.1.below hw') Try.underlying38 rfl HIS.out
        try simp only [List.getElem_toArray, List.getElem_cons_succ, List.getElem_cons_zero, Act.put, List.setIfInBounds_toArray, List.set_cons_zero, List.set_cons_succ]
        refine wpAnyH_take (i := 25) (v := ?vTah25) rfl (by kernel_rfl) (by kernel_rfl) (by kernel_rfl) (fun _ _ _ h => h) (Or.inl ⟨by rfl, fun w' _ => ?yTah25⟩) HH.out ?_
        case yTah25 => (go_simp; try with_reducible rfl)
        try simp only [List.getElem_toArray, List.getElem_cons_succ, List.getElem_cons_zero, Act.put, List.setIfInBounds_toArray, List.set_cons_zero, List.set_cons_succ]
        refine wpAnyH_take (i := 26) (v := ?vTah26) rfl (by kernel_rfl) (by kernel_rfl) (by kernel_rfl) (fun _ _ _ h => h) (Or.inl ⟨by rfl, fun w' _ => ?yTah26⟩) HH.out ?_
        case yTah26 => (go_simp; try with_reducible rfl)
        refine wpAnyH_take (i := 27) (v := ?vTah27) rfl (by kernel_rfl) (by kernel_rfl) (by kernel_rfl) (fun _ _ _ h => h) (Or.inl ⟨by rfl, fun w' _ => ?yTah27⟩) HH.out ?_
        case yTah27 => (go_simp; try with_reducible rfl)
        try simp only [List.getElem_toArray, List.getElem_cons_succ, List.getElem_cons_zero, Act.put, List.setIfInBounds_toArray, List.set_cons_zero, List.set_cons_succ]
        refine wpAnyH_done (by kernel_rfl) ?_ _
        go_wp2_with fail
        go_ret
        exact ⟨by rfl, (B1.out.trans (H29.out.live.bel.mono B1.out.size)).trans (HH.out.mono (B1.out.trans (H29.out.live.bel.mono B1.out.size)).size)⟩
  | false =>
    go_wp2_with fail
    have hc := lm_rot1 H9.out (1 : Int) (q : Int) mb
    rw [(three_rot1 (s := s) (q := q) (b := mb) HQ.out).1, (three_rot1 (s := s) (q := q) (b := mb) HQ.out).2, ← HT.out] at hc
    refine hc.mono ?_
    clear hc
    rintro e w30 ⟨rfl, s30, F30, h, hm30⟩
    have H30 := Lib.hid (show LM p1 g1 p2 g2 (gdS litS fb) g w1 w30 s30 F30 (startM (three s) (three t) 3) 0 from h)
    have BS30 := Lib.hid (BS9.out.step hm30)
    clear h hm30 H9 BS9
    go_wp2_with fail
    have hc := lm_dump1S H30.out
    rw [start_len] at hc
    refine hc.mono ?_
    clear hc
    rintro e w31 ⟨U, cU, rfl, ho, hok, bw⟩
    have RU := Lib.hid (sec_at (Rd.ownN ho) hok (q := 1) (by show 1 < (three t).length; rw [three_length]; omega) (show _ = t from rfl))
    clear ho hok
    have H31 := Lib.hid (H30.out.below bw)
    have BS31 := Lib.hid (BS30.out.below bw)
    clear bw H30 BS30
    obtain ⟨au, hau, CU⟩ := RU.out
    subst hau
    have HCU := Lib.hid CU
    clear CU RU
    by_cases hmz : mb = 0
    ·
      have hts : t = s := by rw [HT.out, hmz]; exact rotS_zero s q
      have HFT := Lib.hid (show okS litSumL 1 t = false ∨ t = s from .inr hts)
      have HCK := Lib.hid (show (if ck (gdS litS fb).f 1 s t = 1 then 1 else 0) = 0 from by
        rw [hts]
        rcases ck_same (f := (gdS litS fb).f) 1 s with h | h <;> rw [h] <;> rfl)
      have HHL := Lib.hid (show hl0 (gdS litS fb).f 1 s t = s ∧ hl1 (gdS litS fb).f 1 s t = s from by
        rw [hts]; unfold hl0 hl1; cases (gdS litS fb).f 1 s <;> exact ⟨rfl, rfl⟩)
      have HMZ := Lib.hid (show (mb.toNat : Int) = 0 by rw [hmz]; rfl)
      have heqt : ∀ W, (Op.equalIn 10000 38 (.agg (bva t)) (.agg (bva s))).run Try.prog W = .ok true W := fun W => by rw [HTS.out, decide_eq_true hts]
      clear hts hmz
      go_upto_region 15 with fail
      refine wp_region_held_drew (S := fun w' => Below w31.heap.size w31 w') (by kernel_rfl) (Below.refl _ _).drew (fun hh => ?_)
      have HH := Lib.hid hh
      clear hh
      refine wpAnyH_take (i := 0) (v := ?vRbz0) rfl (by kernel_rfl) (by kernel_rfl) (by kernel_rfl) (fun _ _ _ h => h) (Or.inl ⟨by rfl, fun w' _ => ?yRbz0⟩) HH.out ?_
      case yRbz0 => (go_simp; try with_reducible rfl)
      refine wpAnyH_take (i := 1) (v := ?vRbz1) rfl (by kernel_rfl) (by kernel_rfl) (by kernel_rfl) (fun _ _ _ h => h) (Or.inl ⟨by rfl, fun w' _ => ?yRbz1⟩) HH.out ?_
      case yRbz1 => (go_simp; try with_reducible rfl)
      try simp only [List.getElem_toArray, List.getElem_cons_succ, List.getElem_cons_zero, Act.put, List.setIfInBounds_toArray, List.set_cons_zero, List.set_cons_succ]
      try simp only [List.getElem_toArray, List.getElem_cons_succ, List.getElem_cons_zero, Act.put, List.setIfInBounds_toArray, List.set_cons_zero, List.set_cons_succ]
      refine wpAnyH_take (i := 2) (v := .agg (bva t)) rfl (by kernel_rfl) (by kernel_rfl) (by kernel_rfl) (fun _ _ _ h => h) (Or.inl ⟨by rfl, fun w' hw' => ?yRbz2⟩) HH.out ?_
      case yRbz2 => exact exec_load_at 38 (.tmp 69) rfl (au.add (1 * 128)) rfl (HCU.out w' hw') Try.underlying38 rfl HITL.out
      try simp only [List.getElem_toArray, List.getElem_cons_succ, List.getElem_cons_zero, Act.put, List.setIfInBounds_toArray, List.set_cons_zero, List.set_cons_succ]
      refine wpAnyH_take (i := 3) (v := .agg (bva s)) rfl (by kernel_rfl) (by kernel_rfl) (by kernel_rfl) (fun _ _ _ h => h) (Or.inl ⟨by rfl, fun w' hw' => ?yRbz3⟩) HH.out ?_
      case yRbz3 => exact exec_load 38 (.tmp 14) rfl rfl (BS31.out.1.below hw') Try.underlying38 rfl HIS.out
      refine wpAnyH_take (i := 4) (v := ?vRbz4) rfl (by kernel_rfl) (by kernel_rfl) (by kernel_rfl) (fun _ _ _ h => h) (Or.inl ⟨by rfl, fun w' _ => ?yRbz4⟩) HH.out ?_
      case yRbz4 => (go_simp; try with_reducible rfl)
      try simp only [List.getElem_toArray, List.getElem_cons_succ, List.getElem_cons_zero, Act.put, List.setIfInBounds_toArray, List.set_cons_zero, List.set_cons_succ]
      refine wpAnyH_done (by kernel_rfl) ?_ _
      have HHB := Lib.hid HH.out
      have bw := HH.out
      clear HCU
      go_wp2_with fail
      have hc := lm_read (H31.out.below bw) (1 : Int)
      rw [show Md.read (gdS litS fb).f (startM (three s) (three t) 3) 1 = (s, 0) from three_read1 HFS.out] at hc
      refine hc.mono ?_
      clear hc
      rintro e w33 ⟨rfl, s33, F33, h, hm33⟩
      have H33 := Lib.hid (show LM p1 g1 p2 g2 (gdS litS fb) g w1 w33 s33 F33 (startM (three s) (three t) 3) 0 from h)
      have BS33 := Lib.hid ((BS31.out.below bw).step hm33)
      clear h hm33 bw HH HHB H31 BS31
      go_wp2_with (show wpList _ _ _ ({ dst := none, op := .store 38 (.tmp 21) (.tmp 85), type := _, pos := _, after := _, guard := _ } :: _) _ _; apply Classical.byContradiction; intro hneg)
      refine hneg ?_
      clear hneg
      refine wpList_store_row rfl 38 (.tmp 21) (.tmp 85) rfl w33.heap.size (bva s) rfl rfl 38 (bva z) (heap_alloc_new _ _) HIS.out (by rw [bva_size, bva_size, HS3.out, HZ3.out]) (bva_one _) ?_
      obtain ⟨w34, hw34⟩ : ∃ w34, w34 = (w33.alloc (.cells (bva z) 38)).setRow w33.heap.size (bva s) := ⟨_, rfl⟩
      have bw : Below w33.heap.size w33 w34 := by rw [hw34]; exact below_setRow ((Below.refl _ _).alloc (Nat.le_refl _) _) (Nat.le_refl _) _
      have hbx : Blk w34 w33.heap.size (bva s) 38 := by rw [hw34]; exact setRow_heap _ _ _ _ _ _ (heap_alloc_new _ _)
      rw [← hw34]
      clear hw34
      obtain ⟨b34, hb34⟩ : ∃ b34, b34 = w33.heap.size := ⟨_, rfl⟩
      rw [← hb34] at hbx
      rw [← hb34]
      have BX34 := Lib.hid (show Bx w1 w34 F33 b34 (bva s) 38 from ⟨hbx, by rw [hb34]; exact H33.out.live.bel.size, fun hf => by have := (ML (Two p1 g1 p2 g2) (gdS litS fb) g).lt H33.out.live.at_ _ hf; omega⟩)
      clear hb34 hbx
      have H34 := Lib.hid (H33.out.below bw)
      have BS34 := Lib.hid (BS33.out.below bw)
      clear bw H33 BS33
      obtain ⟨X, hX⟩ : ∃ X, X = (mdRun (gdS litS fb).f ((startM (three s) (three t) 3), Wk.zero) 3).1 := ⟨_, rfl⟩
      obtain ⟨Y, hY⟩ : ∃ Y, Y = (mdRun (gdS litS fb).f ((startM (three s) (three t) 3), Wk.zero) 3).2 := ⟨_, rfl⟩
      have h3 := three_all (f := (gdS litS fb).f) (a := s) (b := t) (s := s) HHL.out
      rw [← hX, ← hY] at h3
      obtain ⟨⟨L0e, L1e⟩, fr, hh⟩ := h3
      have L0E := Lib.hid L0e
      have L1E := Lib.hid L1e
      have FR := Lib.hid fr
      have HHV := Lib.hid (show Y.h = 0 from by rw [hh]; exact HCK.out)
      clear L0e L1e fr hh
      go_wp2_with fail
      have hc := lm_all2 H34.out (by rw [start_len]; omega) (by omega)
      rw [start_len, ← hX, ← hY, show Y.rep = #[.int .i64 Y.r, .int .i64 Y.h, .int .i64 Y.l] from rfl, HHV.out] at hc
      refine hc.mono ?_
      clear hc
      rintro e w35 ⟨rfl, s35, F35, h, hm35⟩
      have H35 := Lib.hid (show LM p1 g1 p2 g2 (gdS litS fb) g w1 w35 s35 F35 X (0 + 3) from h)
      have BS35 := Lib.hid (BS34.out.step hm35)
      have BX35 := Lib.hid (BX34.out.step hm35)
      clear h hm35 H34 BS34 BX34
      clear hX hY
      go_wp2_with (show wpList _ _ _ ({ dst := none, op := .store 84 (.tmp 23) (.tmp 88), type := _, pos := _, after := _, guard := _ } :: _) _ _; apply Classical.byContradiction; intro hneg)
      refine hneg ?_
      clear hneg
      refine wpList_store_row rfl 84 (.tmp 23) (.tmp 88) rfl w35.heap.size #[.int .i64 (Y.r : Int), .int .i64 ((0 : Nat) : Int), .int .i64 (Y.l : Int)] rfl rfl 84 #[.int .i64 0, .int .i64 0, .int .i64 0] (heap_alloc_new _ _) rep_info rfl (by simp [Value.oneCell']) ?_
      obtain ⟨w36, hw36⟩ : ∃ w36, w36 = (w35.alloc (.cells #[.int .i64 0, .int .i64 0, .int .i64 0] 84)).setRow w35.heap.size #[.int .i64 (Y.r : Int), .int .i64 ((0 : Nat) : Int), .int .i64 (Y.l : Int)] := ⟨_, rfl⟩
      have bw : Below w35.heap.size w35 w36 := by rw [hw36]; exact below_setRow ((Below.refl _ _).alloc (Nat.le_refl _) _) (Nat.le_refl _) _
      have hbx : Blk w36 w35.heap.size #[.int .i64 (Y.r : Int), .int .i64 ((0 : Nat) : Int), .int .i64 (Y.l : Int)] 84 := by rw [hw36]; exact setRow_heap _ _ _ _ _ _ (heap_alloc_new _ _)
      rw [← hw36]
      clear hw36
      obtain ⟨b36, hb36⟩ : ∃ b36, b36 = w35.heap.size := ⟨_, rfl⟩
      rw [← hb36] at hbx
      rw [← hb36]
      have BR36 := Lib.hid (show Bx w1 w36 F35 b36 #[.int .i64 (Y.r : Int), .int .i64 ((0 : Nat) : Int), .int .i64 (Y.l : Int)] 84 from ⟨hbx, by rw [hb36]; exact H35.out.live.bel.size, fun hf => by have := (ML (Two p1 g1 p2 g2) (gdS litS fb) g).lt H35.out.live.at_ _ hf; omega⟩)
      clear hb36 hbx
      have H36 := Lib.hid (H35.out.below bw)
      have BS36 := Lib.hid (BS35.out.below bw)
      have BX36 := Lib.hid (BX35.out.below bw)
      clear bw H35 BS35 BX35
      go_wp2_with fail
      have hc := lm_flush H36.out
      rw [if_neg (show ¬ (X.o0 && X.o1) = true by rw [FR.out.o0, FR.out.o1]; simp)] at hc
      refine hc.mono ?_
      clear hc
      rintro e w37 ⟨rfl, s37, F37, h, hm37⟩
      have H37 := Lib.hid (show LM p1 g1 p2 g2 (gdS litS fb) g w1 w37 s37 F37 X 0 from h)
      have BS37 := Lib.hid (BS36.out.step hm37)
      have BX37 := Lib.hid (BX36.out.step hm37)
      have BR37 := Lib.hid (BR36.out.step hm37)
      clear h hm37 H36 BS36 BX36 BR36
      go_wp2_with fail
      have hc := lm_dump0S H37.out
      rw [FR.out.len] at hc
      refine hc.mono ?_
      clear hc
      rintro e w38 ⟨U, cU, rfl, ho, hok, bw⟩
      have hln : X.l0.length = 3 := FR.out.n0
      have RU := Lib.hid (sec_at (Rd.ownN ho) hok (q := 1) (by rw [hln]; omega) L0E.out)
      clear ho hok hln
      have H38 := Lib.hid (H37.out.below bw)
      have BS38 := Lib.hid (BS37.out.below bw)
      have BX38 := Lib.hid (BX37.out.below bw)
      have BR38 := Lib.hid (BR37.out.below bw)
      clear bw H37 BS37 BX37 BR37
      go_wp2_with fail
      have hc := lm_dump1S H38.out
      rw [FR.out.len] at hc
      refine hc.mono ?_
      clear hc
      rintro e w39 ⟨V, cV, rfl, ho, hok, bw⟩
      have hln : X.l1.length = 3 := FR.out.n1
      have RV := Lib.hid (sec_at (Rd.ownN ho) hok (q := 1) (by rw [hln]; omega) L1E.out)
      clear ho hok hln
      have BW2 := Lib.hid bw
      have H39 := Lib.hid (H38.out.below bw)
      have BS39 := Lib.hid (BS38.out.below bw)
      have BX39 := Lib.hid (BX38.out.below bw)
      have BR39 := Lib.hid (BR38.out.below bw)
      clear bw H38 BS38 BX38 BR38
      obtain ⟨au, hau, CU⟩ := RU.out
      obtain ⟨av, hav, CV⟩ := RV.out
      subst hau hav
      have HCU := Lib.hid (show ∀ w', Below w39.heap.size w39 w' → ∀ jj v, (bv s)[jj]? = some v → w'.cell? ((au.add (1 * 128)).add jj) = some v from fun w' hb => CU w' (BW2.out.trans (hb.mono BW2.out.size)))
      have HCV := Lib.hid CV
      clear CU CV RU RV
      have mz := HMZ.out
      go_upto_region 26 with fail
      refine wp_region_held_drew (S := fun w' => Below w39.heap.size w39 w') (by kernel_rfl) (Below.refl _ _).drew (fun hh => ?_)
      have HH := Lib.hid hh
      clear hh
      refine wpAnyH_take (i := 0) (v := ?vTbn0) rfl (by kernel_rfl) (by kernel_rfl) (by kernel_rfl) (fun _ _ _ h => h) (Or.inl ⟨by rfl, fun w' _ => ?yTbn0⟩) HH.out ?_
      case yTbn0 => (go_simp; try with_reducible rfl)
      refine wpAnyH_take (i := 1) (v := ?vTbn1) rfl (by kernel_rfl) (by kernel_rfl) (by kernel_rfl) (fun _ _ _ h => h) (Or.inl ⟨by rfl, fun w' _ => ?yTbn1⟩) HH.out ?_
      case yTbn1 => (go_simp; try with_reducible rfl)
      try simp only [List.getElem_toArray, List.getElem_cons_succ, List.getElem_cons_zero, Act.put, List.setIfInBounds_toArray, List.set_cons_zero, List.set_cons_succ]
      refine wpAnyH_take (i := 2) (v := ?vTbn2) rfl (by kernel_rfl) (by kernel_rfl) (by kernel_rfl) (fun _ _ _ h => h) (Or.inl ⟨by rfl, fun w' _ => ?yTbn2⟩) HH.out ?_
      case yTbn2 => (go_simp; try with_reducible rfl)
      try simp only [List.getElem_toArray, List.getElem_cons_succ, List.getElem_cons_zero, Act.put, List.setIfInBounds_toArray, List.set_cons_zero, List.set_cons_succ]
      refine wpAnyH_take (i := 3) (v := .agg (bva s)) rfl (by kernel_rfl) (by kernel_rfl) (by kernel_rfl) (fun _ _ _ h => h) (Or.inl ⟨by rfl, fun w' hw' => ?yTbn3⟩) HH.out ?_
      case yTbn3 => exact exec_load 38 (.tmp 21) rfl rfl (BX39.out.1.below hw') Try.underlying38 rfl HIS.out
      try simp only [List.getElem_toArray, List.getElem_cons_succ, List.getElem_cons_zero, Act.put, List.setIfInBounds_toArray, List.set_cons_zero, List.set_cons_succ]
      refine wpAnyH_take (i := 4) (v := .agg (bva s)) rfl (by kernel_rfl) (by kernel_rfl) (by kernel_rfl) (fun _ _ _ h => h) (Or.inl ⟨by rfl, fun w' hw' => ?yTbn4⟩) HH.out ?_
      case yTbn4 => exact exec_load 38 (.tmp 14) rfl rfl (BS39.out.1.below hw') Try.underlying38 rfl HIS.out
      try simp only [List.getElem_toArray, List.getElem_cons_succ, List.getElem_cons_zero, Act.put, List.setIfInBounds_toArray, List.set_cons_zero, List.set_cons_succ]
      refine wpAnyH_take (i := 5) (v := ?vTbn5) rfl (by kernel_rfl) (by kernel_rfl) (by kernel_rfl) (fun _ _ _ h => h) (Or.inl ⟨by rfl, fun w' _ => ?yTbn5⟩) HH.out ?_
      case yTbn5 => (go_simp; try with_reducible rfl)
      refine wpAnyH_take (i := 6) (v := ?vTbn6) rfl (by kernel_rfl) (by kernel_rfl) (by kernel_rfl) (fun _ _ _ h => h) (Or.inl ⟨by rfl, fun w' _ => ?yTbn6⟩) HH.out ?_
      case yTbn6 => (go_simp; try with_reducible rfl)
      refine wpAnyH_take (i := 7) (v := ?vTbn7) rfl (by kernel_rfl) (by kernel_rfl) (by kernel_rfl) (fun _ _ _ h => h) (Or.inl ⟨by rfl, fun w' _ => ?yTbn7⟩) HH.out ?_
      case yTbn7 => (go_simp; try with_reducible rfl)
      try simp only [List.getElem_toArray, List.getElem_cons_succ, List.getElem_cons_zero, Act.put, List.setIfInBounds_toArray, List.set_cons_zero, List.set_cons_succ]
      refine wpAnyH_take (i := 8) (v := ?vTbn8) rfl (by kernel_rfl) (by kernel_rfl) (by kernel_rfl) (fun _ _ _ h => h) (Or.inl ⟨by rfl, fun w' _ => ?yTbn8⟩) HH.out ?_
      case yTbn8 => (go_simp; try with_reducible rfl)
      try simp only [List.getElem_toArray, List.getElem_cons_succ, List.getElem_cons_zero, Act.put, List.setIfInBounds_toArray, List.set_cons_zero, List.set_cons_succ]
      refine wpAnyH_take (i := 9) (v := .int .i64 ((0 : Nat) : Int)) rfl (by kernel_rfl) (by kernel_rfl) (by kernel_rfl) (fun _ _ _ h => h) (Or.inl ⟨by rfl, fun w' hw' => ?yTbn9⟩) HH.out ?_
      case yTbn9 => (have hc : w'.cell? ⟨b36, 1, none⟩ = some (.int .i64 ((0 : Nat) : Int)) := (BR39.out.1.below hw').cell 1; go_simp; try with_reducible rfl)
      try simp only [List.getElem_toArray, List.getElem_cons_succ, List.getElem_cons_zero, Act.put, List.setIfInBounds_toArray, List.set_cons_zero, List.set_cons_succ]
      refine wpAnyH_take (i := 10) (v := ?vTbn10) rfl (by kernel_rfl) (by kernel_rfl) (by kernel_rfl) (fun _ _ _ h => h) (Or.inl ⟨by rfl, fun w' _ => ?yTbn10⟩) HH.out ?_
      case yTbn10 => (go_simp; try with_reducible rfl)
      try simp only [List.getElem_toArray, List.getElem_cons_succ, List.getElem_cons_zero, Act.put, List.setIfInBounds_toArray, List.set_cons_zero, List.set_cons_succ]
      refine wpAnyH_take (i := 11) (v := ?vTbn11) rfl (by kernel_rfl) (by kernel_rfl) (by kernel_rfl) (fun _ _ _ h => h) (Or.inl ⟨by rfl, fun w' _ => ?yTbn11⟩) HH.out ?_
      case yTbn11 => (go_simp; try with_reducible rfl)
      refine wpAnyH_take (i := 12) (v := ?vTbn12) rfl (by kernel_rfl) (by kernel_rfl) (by kernel_rfl) (fun _ _ _ h => h) (Or.inl ⟨by rfl, fun w' _ => ?yTbn12⟩) HH.out ?_
      case yTbn12 => (go_simp; try with_reducible rfl)
      refine wpAnyH_take (i := 13) (v := ?vTbn13) rfl (by kernel_rfl) (by kernel_rfl) (by kernel_rfl) (fun _ _ _ h => h) (Or.inl ⟨by rfl, fun w' _ => ?yTbn13⟩) HH.out ?_
      case yTbn13 => (go_simp; try with_reducible rfl)
      try simp only [List.getElem_toArray, List.getElem_cons_succ, List.getElem_cons_zero, Act.put, List.setIfInBounds_toArray, List.set_cons_zero, List.set_cons_succ]
      refine wpAnyH_take (i := 14) (v := ?vTbn14) rfl (by kernel_rfl) (by kernel_rfl) (by kernel_rfl) (fun _ _ _ h => h) (Or.inl ⟨by rfl, fun w' _ => ?yTbn14⟩) HH.out ?_
      case yTbn14 => (go_simp; try with_reducible rfl)
      try simp only [List.getElem_toArray, List.getElem_cons_succ, List.getElem_cons_zero, Act.put, List.setIfInBounds_toArray, List.set_cons_zero, List.set_cons_succ]
      refine wpAnyH_take (i := 15) (v := ?vTbn15) rfl (by kernel_rfl) (by kernel_rfl) (by kernel_rfl) (fun _ _ _ h => h) (Or.inl ⟨by rfl, fun w' _ => ?yTbn15⟩) HH.out ?_
      case yTbn15 => (go_simp; try with_reducible rfl)
      try simp only [List.getElem_toArray, List.getElem_cons_succ, List.getElem_cons_zero, Act.put, List.setIfInBounds_toArray, List.set_cons_zero, List.set_cons_succ]
      refine wpAnyH_take (i := 16) (v := .agg (bva s)) rfl (by kernel_rfl) (by kernel_rfl) (by kernel_rfl) (fun _ _ _ h => h) (Or.inl ⟨by rfl, fun w' hw' => ?yTbn16⟩) HH.out ?_
      case yTbn16 => exact exec_load_at 38 (.tmp 112) rfl (au.add (1 * 128)) rfl (HCU.out w' hw') Try.underlying38 rfl HISL.out
      try simp only [List.getElem_toArray, List.getElem_cons_succ, List.getElem_cons_zero, Act.put, List.setIfInBounds_toArray, List.set_cons_zero, List.set_cons_succ]
      try simp only [List.getElem_toArray, List.getElem_cons_succ, List.getElem_cons_zero, Act.put, List.setIfInBounds_toArray, List.set_cons_zero, List.set_cons_succ]
      refine wpAnyH_take (i := 17) (v := .agg (bva s)) rfl (by kernel_rfl) (by kernel_rfl) (by kernel_rfl) (fun _ _ _ h => h) (Or.inl ⟨by rfl, fun w' hw' => ?yTbn17⟩) HH.out ?_
      case yTbn17 => exact exec_load 38 (.tmp 14) rfl rfl (BS39.out.1.below hw') Try.underlying38 rfl HIS.out
      try simp only [List.getElem_toArray, List.getElem_cons_succ, List.getElem_cons_zero, Act.put, List.setIfInBounds_toArray, List.set_cons_zero, List.set_cons_succ]
      refine wpAnyH_take (i := 18) (v := ?vTbn18) rfl (by kernel_rfl) (by kernel_rfl) (by kernel_rfl) (fun _ _ _ h => h) (Or.inl ⟨by rfl, fun w' _ => ?yTbn18⟩) HH.out ?_
      case yTbn18 => (go_simp; try with_reducible rfl)
      refine wpAnyH_take (i := 19) (v := ?vTbn19) rfl (by kernel_rfl) (by kernel_rfl) (by kernel_rfl) (fun _ _ _ h => h) (Or.inl ⟨by rfl, fun w' _ => ?yTbn19⟩) HH.out ?_
      case yTbn19 => (go_simp; try with_reducible rfl)
      try simp only [List.getElem_toArray, List.getElem_cons_succ, List.getElem_cons_zero, Act.put, List.setIfInBounds_toArray, List.set_cons_zero, List.set_cons_succ]
      refine wpAnyH_take (i := 20) (v := ?vTbn20) rfl (by kernel_rfl) (by kernel_rfl) (by kernel_rfl) (fun _ _ _ h => h) (Or.inl ⟨by rfl, fun w' _ => ?yTbn20⟩) HH.out ?_
      case yTbn20 => (go_simp; try with_reducible rfl)
      try simp only [List.getElem_toArray, List.getElem_cons_succ, List.getElem_cons_zero, Act.put, List.setIfInBounds_toArray, List.set_cons_zero, List.set_cons_succ]
      refine wpAnyH_take (i := 21) (v := ?vTbn21) rfl (by kernel_rfl) (by kernel_rfl) (by kernel_rfl) (fun _ _ _ h => h) (Or.inl ⟨by rfl, fun w' _ => ?yTbn21⟩) HH.out ?_
      case yTbn21 => (go_simp; try with_reducible rfl)
      try simp only [List.getElem_toArray, List.getElem_cons_succ, List.getElem_cons_zero, Act.put, List.setIfInBounds_toArray, List.set_cons_zero, List.set_cons_succ]
      refine wpAnyH_take (i := 22) (v := ?vTbn22) rfl (by kernel_rfl) (by kernel_rfl) (by kernel_rfl) (fun _ _ _ h => h) (Or.inl ⟨by rfl, fun w' _ => ?yTbn22⟩) HH.out ?_
      case yTbn22 => (go_simp; try with_reducible rfl)
      try simp only [List.getElem_toArray, List.getElem_cons_succ, List.getElem_cons_zero, Act.put, List.setIfInBounds_toArray, List.set_cons_zero, List.set_cons_succ]
      try simp only [List.getElem_toArray, List.getElem_cons_succ, List.getElem_cons_zero, Act.put, List.setIfInBounds_toArray, List.set_cons_zero, List.set_cons_succ]
      refine wpAnyH_take (i := 23) (v := .agg (bva s)) rfl (by kernel_rfl) (by kernel_rfl) (by kernel_rfl) (fun _ _ _ h => h) (Or.inl ⟨by rfl, fun w' hw' => ?yTbn23⟩) HH.out ?_
      case yTbn23 => exact exec_load_at 38 (.tmp 119) rfl (av.add (1 * 128)) rfl (HCV.out w' hw') Try.underlying38 rfl HISL.out
      try simp only [List.getElem_toArray, List.getElem_cons_succ, List.getElem_cons_zero, Act.put, List.setIfInBounds_toArray, List.set_cons_zero, List.set_cons_succ]
      refine wpAnyH_take (i := 24) (v := .agg (bva s)) rfl (by kernel_rfl) (by kernel_rfl) (by kernel_rfl) (fun _ _ _ h => h) (Or.inl ⟨by rfl, fun w' hw' => ?yTbn24⟩) HH.out ?_
      case yTbn24 => exact exec_load 38 (.tmp 14) rfl rfl (BS39.out.1.below hw') Try.underlying38 rfl HIS.out
      try simp only [List.getElem_toArray, List.getElem_cons_succ, List.getElem_cons_zero, Act.put, List.setIfInBounds_toArray, List.set_cons_zero, List.set_cons_succ]
      refine wpAnyH_take (i := 25) (v := ?vTbn25) rfl (by kernel_rfl) (by kernel_rfl) (by kernel_rfl) (fun _ _ _ h => h) (Or.inl ⟨by rfl, fun w' _ => ?yTbn25⟩) HH.out ?_
      case yTbn25 => (go_simp; try with_reducible rfl)
      try simp only [List.getElem_toArray, List.getElem_cons_succ, List.getElem_cons_zero, Act.put, List.setIfInBounds_toArray, List.set_cons_zero, List.set_cons_succ]
      refine wpAnyH_take (i := 26) (v := ?vTbn26) rfl (by kernel_rfl) (by kernel_rfl) (by kernel_rfl) (fun _ _ _ h => h) (Or.inl ⟨by rfl, fun w' _ => ?yTbn26⟩) HH.out ?_
      case yTbn26 => (go_simp; try with_reducible rfl)
      refine wpAnyH_take (i := 27) (v := ?vTbn27) rfl (by kernel_rfl) (by kernel_rfl) (by kernel_rfl) (fun _ _ _ h => h) (Or.inl ⟨by rfl, fun w' _ => ?yTbn27⟩) HH.out ?_
      case yTbn27 => (go_simp; try with_reducible rfl)
      try simp only [List.getElem_toArray, List.getElem_cons_succ, List.getElem_cons_zero, Act.put, List.setIfInBounds_toArray, List.set_cons_zero, List.set_cons_succ]
      refine wpAnyH_done (by kernel_rfl) ?_ _
      go_wp2_with fail
      go_ret
      exact ⟨by rfl, (B1.out.trans (H39.out.live.bel.mono B1.out.size)).trans (HH.out.mono (B1.out.trans (H39.out.live.bel.mono B1.out.size)).size)⟩
    ·
      have hts : ¬ t = s := by rw [HT.out]; exact rotS_ne (by rw [HS3.out]; exact HQ.out) hmz
      have HMZ := Lib.hid (show ¬ (mb.toNat : Int) = 0 from fun e => hmz (UInt8.toNat_inj.1 (by show mb.toNat = 0; omega)))
      have heqt : ∀ W, (Op.equalIn 10000 38 (.agg (bva t)) (.agg (bva s))).run Try.prog W = .ok false W := fun W => by rw [HTS.out, decide_eq_false hts]
      have HNS := Lib.hid hts
      clear hts hmz
      go_upto_region 15 with fail
      refine wp_region_held_drew (S := fun w' => Below w31.heap.size w31 w') (by kernel_rfl) (Below.refl _ _).drew (fun hh => ?_)
      have HH := Lib.hid hh
      clear hh
      refine wpAnyH_take (i := 0) (v := ?vRbn0) rfl (by kernel_rfl) (by kernel_rfl) (by kernel_rfl) (fun _ _ _ h => h) (Or.inl ⟨by rfl, fun w' _ => ?yRbn0⟩) HH.out ?_
      case yRbn0 => (go_simp; try with_reducible rfl)
      refine wpAnyH_take (i := 1) (v := ?vRbn1) rfl (by kernel_rfl) (by kernel_rfl) (by kernel_rfl) (fun _ _ _ h => h) (Or.inl ⟨by rfl, fun w' _ => ?yRbn1⟩) HH.out ?_
      case yRbn1 => (go_simp; try with_reducible rfl)
      try simp only [List.getElem_toArray, List.getElem_cons_succ, List.getElem_cons_zero, Act.put, List.setIfInBounds_toArray, List.set_cons_zero, List.set_cons_succ]
      try simp only [List.getElem_toArray, List.getElem_cons_succ, List.getElem_cons_zero, Act.put, List.setIfInBounds_toArray, List.set_cons_zero, List.set_cons_succ]
      refine wpAnyH_take (i := 2) (v := .agg (bva t)) rfl (by kernel_rfl) (by kernel_rfl) (by kernel_rfl) (fun _ _ _ h => h) (Or.inl ⟨by rfl, fun w' hw' => ?yRbn2⟩) HH.out ?_
      case yRbn2 => exact exec_load_at 38 (.tmp 69) rfl (au.add (1 * 128)) rfl (HCU.out w' hw') Try.underlying38 rfl HITL.out
      try simp only [List.getElem_toArray, List.getElem_cons_succ, List.getElem_cons_zero, Act.put, List.setIfInBounds_toArray, List.set_cons_zero, List.set_cons_succ]
      refine wpAnyH_take (i := 3) (v := .agg (bva s)) rfl (by kernel_rfl) (by kernel_rfl) (by kernel_rfl) (fun _ _ _ h => h) (Or.inl ⟨by rfl, fun w' hw' => ?yRbn3⟩) HH.out ?_
      case yRbn3 => exact exec_load 38 (.tmp 14) rfl rfl (BS31.out.1.below hw') Try.underlying38 rfl HIS.out
      refine wpAnyH_take (i := 4) (v := ?vRbn4) rfl (by kernel_rfl) (by kernel_rfl) (by kernel_rfl) (fun _ _ _ h => h) (Or.inl ⟨by rfl, fun w' _ => ?yRbn4⟩) HH.out ?_
      case yRbn4 => (go_simp; try with_reducible rfl)
      try simp only [List.getElem_toArray, List.getElem_cons_succ, List.getElem_cons_zero, Act.put, List.setIfInBounds_toArray, List.set_cons_zero, List.set_cons_succ]
      refine wpAnyH_done (by kernel_rfl) ?_ _
      have bw := HH.out
      cases hft : okS litSumL 1 t with
      | true =>
        have HCU2 := Lib.hid (show ∀ W, Calls Try.prog 55 #[.int .i64 1, .agg (bva t)] W (RetU (unpackS litSumL 1 t).1 (unpackS litSumL 1 t).2 true W) from fun W => by
          have h := runpack_any 1 t HT3.out W
          rw [hft] at h; exact h)
        clear hft
        go_wp2_with (refine wpList_execg8 rfl (exec_load_at 38 (.tmp 75) rfl (au.add (1 * 128)) rfl (HCU.out _ bw) Try.underlying38 rfl HITL.out) ?_)
        refine (HCU2.out _).mono ?_
        rintro e wz ⟨Az, nz, cz, rfl, _, bz⟩
        go_wp2_with fail
        go_ret
        exact ⟨rfl, (B1.out.trans (H31.out.live.bel.mono B1.out.size)).trans ((bw.trans (bz.mono bw.size)).mono (B1.out.trans (H31.out.live.bel.mono B1.out.size)).size)⟩
      | false =>
        have HFT := Lib.hid (show okS litSumL 1 t = false ∨ t = s from .inl hft)
        have HCK := Lib.hid (show (if ck (gdS litS fb).f 1 s t = 1 then 1 else 0) = 1 from by
          have h1 : (gdS litS fb).f ((1 : Nat) : Int) t = false := hft
          have h2 : (gdS litS fb).f ((1 : Nat) : Int) s = true := HFS.out
          have h3 : ck (gdS litS fb).f 1 s t = 1 := by unfold ck; rw [h1, h2]; rfl
          rw [if_pos h3])
        have HHL := Lib.hid (show hl0 (gdS litS fb).f 1 s t = s ∧ hl1 (gdS litS fb).f 1 s t = s from by
          have h1 : (gdS litS fb).f ((1 : Nat) : Int) t = false := hft
          have h2 : (gdS litS fb).f ((1 : Nat) : Int) s = true := HFS.out
          unfold hl0 hl1; rw [h1, h2]; exact ⟨rfl, rfl⟩)
        have HCU2 := Lib.hid (show ∀ W, Calls Try.prog 55 #[.int .i64 1, .agg (bva t)] W (RetU (unpackS litSumL 1 t).1 (unpackS litSumL 1 t).2 false W) from fun W => by
          have h := runpack_any 1 t HT3.out W
          rw [hft] at h; exact h)
        clear hft
        go_wp2_with (refine wpList_execg8 rfl (exec_load_at 38 (.tmp 75) rfl (au.add (1 * 128)) rfl (HCU.out _ bw) Try.underlying38 rfl HITL.out) ?_)
        refine (HCU2.out _).mono ?_
        rintro e w42 ⟨Az, nz, cz, rfl, _, bz⟩
        have bw2 := bw.trans (bz.mono bw.size)
        clear bw bz HH
        have bw := bw2
        clear bw2 HCU HCU2
        have H42 := Lib.hid (H31.out.below bw)
        have BS42 := Lib.hid (BS31.out.below bw)
        clear bw H31 BS31

        go_wp2_with fail
        have hc := lm_read H42.out (1 : Int)
        rw [show Md.read (gdS litS fb).f (startM (three s) (three t) 3) 1 = (s, 0) from three_read1 HFS.out] at hc
        refine hc.mono ?_
        clear hc
        rintro e w43 ⟨rfl, s43, F43, h, hm43⟩
        have H43 := Lib.hid (show LM p1 g1 p2 g2 (gdS litS fb) g w1 w43 s43 F43 (startM (three s) (three t) 3) 0 from h)
        have BS43 := Lib.hid (BS42.out.step hm43)
        clear h hm43 H42 BS42
        go_wp2_with (show wpList _ _ _ ({ dst := none, op := .store 38 (.tmp 21) (.tmp 85), type := _, pos := _, after := _, guard := _ } :: _) _ _; apply Classical.byContradiction; intro hneg)
        refine hneg ?_
        clear hneg
        refine wpList_store_row rfl 38 (.tmp 21) (.tmp 85) rfl w43.heap.size (bva s) rfl rfl 38 (bva z) (heap_alloc_new _ _) HIS.out (by rw [bva_size, bva_size, HS3.out, HZ3.out]) (bva_one _) ?_
        obtain ⟨w44, hw44⟩ : ∃ w44, w44 = (w43.alloc (.cells (bva z) 38)).setRow w43.heap.size (bva s) := ⟨_, rfl⟩
        have bw : Below w43.heap.size w43 w44 := by rw [hw44]; exact below_setRow ((Below.refl _ _).alloc (Nat.le_refl _) _) (Nat.le_refl _) _
        have hbx : Blk w44 w43.heap.size (bva s) 38 := by rw [hw44]; exact setRow_heap _ _ _ _ _ _ (heap_alloc_new _ _)
        rw [← hw44]
        clear hw44
        obtain ⟨b44, hb44⟩ : ∃ b44, b44 = w43.heap.size := ⟨_, rfl⟩
        rw [← hb44] at hbx
        rw [← hb44]
        have BX44 := Lib.hid (show Bx w1 w44 F43 b44 (bva s) 38 from ⟨hbx, by rw [hb44]; exact H43.out.live.bel.size, fun hf => by have := (ML (Two p1 g1 p2 g2) (gdS litS fb) g).lt H43.out.live.at_ _ hf; omega⟩)
        clear hb44 hbx
        have H44 := Lib.hid (H43.out.below bw)
        have BS44 := Lib.hid (BS43.out.below bw)
        clear bw H43 BS43
        obtain ⟨X, hX⟩ : ∃ X, X = (mdRun (gdS litS fb).f ((startM (three s) (three t) 3), Wk.zero) 3).1 := ⟨_, rfl⟩
        obtain ⟨Y, hY⟩ : ∃ Y, Y = (mdRun (gdS litS fb).f ((startM (three s) (three t) 3), Wk.zero) 3).2 := ⟨_, rfl⟩
        have h3 := three_all (f := (gdS litS fb).f) (a := s) (b := t) (s := s) HHL.out
        rw [← hX, ← hY] at h3
        obtain ⟨⟨L0e, L1e⟩, fr, hh⟩ := h3
        have L0E := Lib.hid L0e
        have L1E := Lib.hid L1e
        have FR := Lib.hid fr
        have HHV := Lib.hid (show Y.h = 1 from by rw [hh]; exact HCK.out)
        clear L0e L1e fr hh
        go_wp2_with fail
        have hc := lm_all2 H44.out (by rw [start_len]; omega) (by omega)
        rw [start_len, ← hX, ← hY, show Y.rep = #[.int .i64 Y.r, .int .i64 Y.h, .int .i64 Y.l] from rfl, HHV.out] at hc
        refine hc.mono ?_
        clear hc
        rintro e w45 ⟨rfl, s45, F45, h, hm45⟩
        have H45 := Lib.hid (show LM p1 g1 p2 g2 (gdS litS fb) g w1 w45 s45 F45 X (0 + 3) from h)
        have BS45 := Lib.hid (BS44.out.step hm45)
        have BX45 := Lib.hid (BX44.out.step hm45)
        clear h hm45 H44 BS44 BX44
        clear hX hY
        go_wp2_with (show wpList _ _ _ ({ dst := none, op := .store 84 (.tmp 23) (.tmp 88), type := _, pos := _, after := _, guard := _ } :: _) _ _; apply Classical.byContradiction; intro hneg)
        refine hneg ?_
        clear hneg
        refine wpList_store_row rfl 84 (.tmp 23) (.tmp 88) rfl w45.heap.size #[.int .i64 (Y.r : Int), .int .i64 ((1 : Nat) : Int), .int .i64 (Y.l : Int)] rfl rfl 84 #[.int .i64 0, .int .i64 0, .int .i64 0] (heap_alloc_new _ _) rep_info rfl (by simp [Value.oneCell']) ?_
        obtain ⟨w46, hw46⟩ : ∃ w46, w46 = (w45.alloc (.cells #[.int .i64 0, .int .i64 0, .int .i64 0] 84)).setRow w45.heap.size #[.int .i64 (Y.r : Int), .int .i64 ((1 : Nat) : Int), .int .i64 (Y.l : Int)] := ⟨_, rfl⟩
        have bw : Below w45.heap.size w45 w46 := by rw [hw46]; exact below_setRow ((Below.refl _ _).alloc (Nat.le_refl _) _) (Nat.le_refl _) _
        have hbx : Blk w46 w45.heap.size #[.int .i64 (Y.r : Int), .int .i64 ((1 : Nat) : Int), .int .i64 (Y.l : Int)] 84 := by rw [hw46]; exact setRow_heap _ _ _ _ _ _ (heap_alloc_new _ _)
        rw [← hw46]
        clear hw46
        obtain ⟨b46, hb46⟩ : ∃ b46, b46 = w45.heap.size := ⟨_, rfl⟩
        rw [← hb46] at hbx
        rw [← hb46]
        have BR46 := Lib.hid (show Bx w1 w46 F45 b46 #[.int .i64 (Y.r : Int), .int .i64 ((1 : Nat) : Int), .int .i64 (Y.l : Int)] 84 from ⟨hbx, by rw [hb46]; exact H45.out.live.bel.size, fun hf => by have := (ML (Two p1 g1 p2 g2) (gdS litS fb) g).lt H45.out.live.at_ _ hf; omega⟩)
        clear hb46 hbx
        have H46 := Lib.hid (H45.out.below bw)
        have BS46 := Lib.hid (BS45.out.below bw)
        have BX46 := Lib.hid (BX45.out.below bw)
        clear bw H45 BS45 BX45
        go_wp2_with fail
        have hc := lm_flush H46.out
        rw [if_neg (show ¬ (X.o0 && X.o1) = true by rw [FR.out.o0, FR.out.o1]; simp)] at hc
        refine hc.mono ?_
        clear hc
        rintro e w47 ⟨rfl, s47, F47, h, hm47⟩
        have H47 := Lib.hid (show LM p1 g1 p2 g2 (gdS litS fb) g w1 w47 s47 F47 X 0 from h)
        have BS47 := Lib.hid (BS46.out.step hm47)
        have BX47 := Lib.hid (BX46.out.step hm47)
        have BR47 := Lib.hid (BR46.out.step hm47)
        clear h hm47 H46 BS46 BX46 BR46
        go_wp2_with fail
        have hc := lm_dump0S H47.out
        rw [FR.out.len] at hc
        refine hc.mono ?_
        clear hc
        rintro e w48 ⟨U, cU, rfl, ho, hok, bw⟩
        have hln : X.l0.length = 3 := FR.out.n0
        have RU := Lib.hid (sec_at (Rd.ownN ho) hok (q := 1) (by rw [hln]; omega) L0E.out)
        clear ho hok hln
        have H48 := Lib.hid (H47.out.below bw)
        have BS48 := Lib.hid (BS47.out.below bw)
        have BX48 := Lib.hid (BX47.out.below bw)
        have BR48 := Lib.hid (BR47.out.below bw)
        clear bw H47 BS47 BX47 BR47
        go_wp2_with fail
        have hc := lm_dump1S H48.out
        rw [FR.out.len] at hc
        refine hc.mono ?_
        clear hc
        rintro e w49 ⟨V, cV, rfl, ho, hok, bw⟩
        have hln : X.l1.length = 3 := FR.out.n1
        have RV := Lib.hid (sec_at (Rd.ownN ho) hok (q := 1) (by rw [hln]; omega) L1E.out)
        clear ho hok hln
        have BW2 := Lib.hid bw
        have H49 := Lib.hid (H48.out.below bw)
        have BS49 := Lib.hid (BS48.out.below bw)
        have BX49 := Lib.hid (BX48.out.below bw)
        have BR49 := Lib.hid (BR48.out.below bw)
        clear bw H48 BS48 BX48 BR48
        obtain ⟨au, hau, CU⟩ := RU.out
        obtain ⟨av, hav, CV⟩ := RV.out
        subst hau hav
        have HCU := Lib.hid (show ∀ w', Below w49.heap.size w49 w' → ∀ jj v, (bv s)[jj]? = some v → w'.cell? ((au.add (1 * 128)).add jj) = some v from fun w' hb => CU w' (BW2.out.trans (hb.mono BW2.out.size)))
        have HCV := Lib.hid CV
        clear CU CV RU RV
        have mz := HMZ.out
        go_upto_region 26 with fail
        refine wp_region_held_drew (S := fun w' => Below w49.heap.size w49 w') (by kernel_rfl) (Below.refl _ _).drew (fun hh => ?_)
        have HH := Lib.hid hh
        clear hh
        refine wpAnyH_take (i := 0) (v := ?vTbh0) rfl (by kernel_rfl) (by kernel_rfl) (by kernel_rfl) (fun _ _ _ h => h) (Or.inl ⟨by rfl, fun w' _ => ?yTbh0⟩) HH.out ?_
        case yTbh0 => (go_simp; try with_reducible rfl)
        refine wpAnyH_take (i := 1) (v := ?vTbh1) rfl (by kernel_rfl) (by kernel_rfl) (by kernel_rfl) (fun _ _ _ h => h) (Or.inl ⟨by rfl, fun w' _ => ?yTbh1⟩) HH.out ?_
        case yTbh1 => (go_simp; try with_reducible rfl)
        try simp only [List.getElem_toArray, List.getElem_cons_succ, List.getElem_cons_zero, Act.put, List.setIfInBounds_toArray, List.set_cons_zero, List.set_cons_succ]
        refine wpAnyH_take (i := 2) (v := ?vTbh2) rfl (by kernel_rfl) (by kernel_rfl) (by kernel_rfl) (fun _ _ _ h => h) (Or.inl ⟨by rfl, fun w' _ => ?yTbh2⟩) HH.out ?_
        case yTbh2 => (go_simp; try with_reducible rfl)
        try simp only [List.getElem_toArray, List.getElem_cons_succ, List.getElem_cons_zero, Act.put, List.setIfInBounds_toArray, List.set_cons_zero, List.set_cons_succ]
        refine wpAnyH_take (i := 3) (v := .agg (bva s)) rfl (by kernel_rfl) (by kernel_rfl) (by kernel_rfl) (fun _ _ _ h => h) (Or.inl ⟨by rfl, fun w' hw' => ?yTbh3⟩) HH.out ?_
        case yTbh3 => exact exec_load 38 (.tmp 21) rfl rfl (BX49.out.1.below hw') Try.underlying38 rfl HIS.out
        try simp only [List.getElem_toArray, List.getElem_cons_succ, List.getElem_cons_zero, Act.put, List.setIfInBounds_toArray, List.set_cons_zero, List.set_cons_succ]
        refine wpAnyH_take (i := 4) (v := .agg (bva s)) rfl (by kernel_rfl) (by kernel_rfl) (by kernel_rfl) (fun _ _ _ h => h) (Or.inl ⟨by rfl, fun w' hw' => ?yTbh4⟩) HH.out ?_
        case yTbh4 => exact exec_load 38 (.tmp 14) rfl rfl (BS49.out.1.below hw') Try.underlying38 rfl HIS.out
        try simp only [List.getElem_toArray, List.getElem_cons_succ, List.getElem_cons_zero, Act.put, List.setIfInBounds_toArray, List.set_cons_zero, List.set_cons_succ]
        refine wpAnyH_take (i := 5) (v := ?vTbh5) rfl (by kernel_rfl) (by kernel_rfl) (by kernel_rfl) (fun _ _ _ h => h) (Or.inl ⟨by rfl, fun w' _ => ?yTbh5⟩) HH.out ?_
        case yTbh5 => (go_simp; try with_reducible rfl)
        refine wpAnyH_take (i := 6) (v := ?vTbh6) rfl (by kernel_rfl) (by kernel_rfl) (by kernel_rfl) (fun _ _ _ h => h) (Or.inl ⟨by rfl, fun w' _ => ?yTbh6⟩) HH.out ?_
        case yTbh6 => (go_simp; try with_reducible rfl)
        refine wpAnyH_take (i := 7) (v := ?vTbh7) rfl (by kernel_rfl) (by kernel_rfl) (by kernel_rfl) (fun _ _ _ h => h) (Or.inl ⟨by rfl, fun w' _ => ?yTbh7⟩) HH.out ?_
        case yTbh7 => (go_simp; try with_reducible rfl)
        try simp only [List.getElem_toArray, List.getElem_cons_succ, List.getElem_cons_zero, Act.put, List.setIfInBounds_toArray, List.set_cons_zero, List.set_cons_succ]
        refine wpAnyH_take (i := 8) (v := ?vTbh8) rfl (by kernel_rfl) (by kernel_rfl) (by kernel_rfl) (fun _ _ _ h => h) (Or.inl ⟨by rfl, fun w' _ => ?yTbh8⟩) HH.out ?_
        case yTbh8 => (go_simp; try with_reducible rfl)
        try simp only [List.getElem_toArray, List.getElem_cons_succ, List.getElem_cons_zero, Act.put, List.setIfInBounds_toArray, List.set_cons_zero, List.set_cons_succ]
        refine wpAnyH_take (i := 9) (v := .int .i64 ((1 : Nat) : Int)) rfl (by kernel_rfl) (by kernel_rfl) (by kernel_rfl) (fun _ _ _ h => h) (Or.inl ⟨by rfl, fun w' hw' => ?yTbh9⟩) HH.out ?_
        case yTbh9 => (have hc : w'.cell? ⟨b46, 1, none⟩ = some (.int .i64 ((1 : Nat) : Int)) := (BR49.out.1.below hw').cell 1; go_simp; try with_reducible rfl)
        try simp only [List.getElem_toArray, List.getElem_cons_succ, List.getElem_cons_zero, Act.put, List.setIfInBounds_toArray, List.set_cons_zero, List.set_cons_succ]
        refine wpAnyH_take (i := 10) (v := ?vTbh10) rfl (by kernel_rfl) (by kernel_rfl) (by kernel_rfl) (fun _ _ _ h => h) (Or.inl ⟨by rfl, fun w' _ => ?yTbh10⟩) HH.out ?_
        case yTbh10 => (go_simp; try with_reducible rfl)
        try simp only [List.getElem_toArray, List.getElem_cons_succ, List.getElem_cons_zero, Act.put, List.setIfInBounds_toArray, List.set_cons_zero, List.set_cons_succ]
        refine wpAnyH_take (i := 11) (v := ?vTbh11) rfl (by kernel_rfl) (by kernel_rfl) (by kernel_rfl) (fun _ _ _ h => h) (Or.inl ⟨by rfl, fun w' _ => ?yTbh11⟩) HH.out ?_
        case yTbh11 => (go_simp; try with_reducible rfl)
        refine wpAnyH_take (i := 12) (v := ?vTbh12) rfl (by kernel_rfl) (by kernel_rfl) (by kernel_rfl) (fun _ _ _ h => h) (Or.inl ⟨by rfl, fun w' _ => ?yTbh12⟩) HH.out ?_
        case yTbh12 => (go_simp; try with_reducible rfl)
        refine wpAnyH_take (i := 13) (v := ?vTbh13) rfl (by kernel_rfl) (by kernel_rfl) (by kernel_rfl) (fun _ _ _ h => h) (Or.inl ⟨by rfl, fun w' _ => ?yTbh13⟩) HH.out ?_
        case yTbh13 => (go_simp; try with_reducible rfl)
        try simp only [List.getElem_toArray, List.getElem_cons_succ, List.getElem_cons_zero, Act.put, List.setIfInBounds_toArray, List.set_cons_zero, List.set_cons_succ]
        refine wpAnyH_take (i := 14) (v := ?vTbh14) rfl (by kernel_rfl) (by kernel_rfl) (by kernel_rfl) (fun _ _ _ h => h) (Or.inl ⟨by rfl, fun w' _ => ?yTbh14⟩) HH.out ?_
        case yTbh14 => (go_simp; try with_reducible rfl)
        try simp only [List.getElem_toArray, List.getElem_cons_succ, List.getElem_cons_zero, Act.put, List.setIfInBounds_toArray, List.set_cons_zero, List.set_cons_succ]
        refine wpAnyH_take (i := 15) (v := ?vTbh15) rfl (by kernel_rfl) (by kernel_rfl) (by kernel_rfl) (fun _ _ _ h => h) (Or.inl ⟨by rfl, fun w' _ => ?yTbh15⟩) HH.out ?_
        case yTbh15 => (go_simp; try with_reducible rfl)
        try simp only [List.getElem_toArray, List.getElem_cons_succ, List.getElem_cons_zero, Act.put, List.setIfInBounds_toArray, List.set_cons_zero, List.set_cons_succ]
        refine wpAnyH_take (i := 16) (v := .agg (bva s)) rfl (by kernel_rfl) (by kernel_rfl) (by kernel_rfl) (fun _ _ _ h => h) (Or.inl ⟨by rfl, fun w' hw' => ?yTbh16⟩) HH.out ?_
        case yTbh16 => exact exec_load_at 38 (.tmp 112) rfl (au.add (1 * 128)) rfl (HCU.out w' hw') Try.underlying38 rfl HISL.out
        try simp only [List.getElem_toArray, List.getElem_cons_succ, List.getElem_cons_zero, Act.put, List.setIfInBounds_toArray, List.set_cons_zero, List.set_cons_succ]
        try simp only [List.getElem_toArray, List.getElem_cons_succ, List.getElem_cons_zero, Act.put, List.setIfInBounds_toArray, List.set_cons_zero, List.set_cons_succ]
        refine wpAnyH_take (i := 17) (v := .agg (bva s)) rfl (by kernel_rfl) (by kernel_rfl) (by kernel_rfl) (fun _ _ _ h => h) (Or.inl ⟨by rfl, fun w' hw' => ?yTbh17⟩) HH.out ?_
        case yTbh17 => exact exec_load 38 (.tmp 14) rfl rfl (BS49.out.1.below hw') Try.underlying38 rfl HIS.out
        try simp only [List.getElem_toArray, List.getElem_cons_succ, List.getElem_cons_zero, Act.put, List.setIfInBounds_toArray, List.set_cons_zero, List.set_cons_succ]
        refine wpAnyH_take (i := 18) (v := ?vTbh18) rfl (by kernel_rfl) (by kernel_rfl) (by kernel_rfl) (fun _ _ _ h => h) (Or.inl ⟨by rfl, fun w' _ => ?yTbh18⟩) HH.out ?_
        case yTbh18 => (go_simp; try with_reducible rfl)
        refine wpAnyH_take (i := 19) (v := ?vTbh19) rfl (by kernel_rfl) (by kernel_rfl) (by kernel_rfl) (fun _ _ _ h => h) (Or.inl ⟨by rfl, fun w' _ => ?yTbh19⟩) HH.out ?_
        case yTbh19 => (go_simp; try with_reducible rfl)
        try simp only [List.getElem_toArray, List.getElem_cons_succ, List.getElem_cons_zero, Act.put, List.setIfInBounds_toArray, List.set_cons_zero, List.set_cons_succ]
        refine wpAnyH_take (i := 20) (v := ?vTbh20) rfl (by kernel_rfl) (by kernel_rfl) (by kernel_rfl) (fun _ _ _ h => h) (Or.inl ⟨by rfl, fun w' _ => ?yTbh20⟩) HH.out ?_
        case yTbh20 => (go_simp; try with_reducible rfl)
        try simp only [List.getElem_toArray, List.getElem_cons_succ, List.getElem_cons_zero, Act.put, List.setIfInBounds_toArray, List.set_cons_zero, List.set_cons_succ]
        refine wpAnyH_take (i := 21) (v := ?vTbh21) rfl (by kernel_rfl) (by kernel_rfl) (by kernel_rfl) (fun _ _ _ h => h) (Or.inl ⟨by rfl, fun w' _ => ?yTbh21⟩) HH.out ?_
        case yTbh21 => (go_simp; try with_reducible rfl)
        try simp only [List.getElem_toArray, List.getElem_cons_succ, List.getElem_cons_zero, Act.put, List.setIfInBounds_toArray, List.set_cons_zero, List.set_cons_succ]
        refine wpAnyH_take (i := 22) (v := ?vTbh22) rfl (by kernel_rfl) (by kernel_rfl) (by kernel_rfl) (fun _ _ _ h => h) (Or.inl ⟨by rfl, fun w' _ => ?yTbh22⟩) HH.out ?_
        case yTbh22 => (go_simp; try with_reducible rfl)
        try simp only [List.getElem_toArray, List.getElem_cons_succ, List.getElem_cons_zero, Act.put, List.setIfInBounds_toArray, List.set_cons_zero, List.set_cons_succ]
        try simp only [List.getElem_toArray, List.getElem_cons_succ, List.getElem_cons_zero, Act.put, List.setIfInBounds_toArray, List.set_cons_zero, List.set_cons_succ]
        refine wpAnyH_take (i := 23) (v := .agg (bva s)) rfl (by kernel_rfl) (by kernel_rfl) (by kernel_rfl) (fun _ _ _ h => h) (Or.inl ⟨by rfl, fun w' hw' => ?yTbh23⟩) HH.out ?_
        case yTbh23 => exact exec_load_at 38 (.tmp 119) rfl (av.add (1 * 128)) rfl (HCV.out w' hw') Try.underlying38 rfl HISL.out
        try simp only [List.getElem_toArray, List.getElem_cons_succ, List.getElem_cons_zero, Act.put, List.setIfInBounds_toArray, List.set_cons_zero, List.set_cons_succ]
        refine wpAnyH_take (i := 24) (v := .agg (bva s)) rfl (by kernel_rfl) (by kernel_rfl) (by kernel_rfl) (fun _ _ _ h => h) (Or.inl ⟨by rfl, fun w' hw' => ?yTbh24⟩) HH.out ?_
        case yTbh24 => exact exec_load 38 (.tmp 14) rfl rfl (BS49.out.1.below hw') Try.underlying38 rfl HIS.out
        try simp only [List.getElem_toArray, List.getElem_cons_succ, List.getElem_cons_zero, Act.put, List.setIfInBounds_toArray, List.set_cons_zero, List.set_cons_succ]
        refine wpAnyH_take (i := 25) (v := ?vTbh25) rfl (by kernel_rfl) (by kernel_rfl) (by kernel_rfl) (fun _ _ _ h => h) (Or.inl ⟨by rfl, fun w' _ => ?yTbh25⟩) HH.out ?_
        case yTbh25 => (go_simp; try with_reducible rfl)
        try simp only [List.getElem_toArray, List.getElem_cons_succ, List.getElem_cons_zero, Act.put, List.setIfInBounds_toArray, List.set_cons_zero, List.set_cons_succ]
        refine wpAnyH_take (i := 26) (v := ?vTbh26) rfl (by kernel_rfl) (by kernel_rfl) (by kernel_rfl) (fun _ _ _ h => h) (Or.inl ⟨by rfl, fun w' _ => ?yTbh26⟩) HH.out ?_
        case yTbh26 => (go_simp; try with_reducible rfl)
        refine wpAnyH_take (i := 27) (v := ?vTbh27) rfl (by kernel_rfl) (by kernel_rfl) (by kernel_rfl) (fun _ _ _ h => h) (Or.inl ⟨by rfl, fun w' _ => ?yTbh27⟩) HH.out ?_
        case yTbh27 => (go_simp; try with_reducible rfl)
        try simp only [List.getElem_toArray, List.getElem_cons_succ, List.getElem_cons_zero, Act.put, List.setIfInBounds_toArray, List.set_cons_zero, List.set_cons_succ]
        refine wpAnyH_done (by kernel_rfl) ?_ _
        go_wp2_with fail
        go_ret
        exact ⟨by rfl, (B1.out.trans (H49.out.live.bel.mono B1.out.size)).trans (HH.out.mono (B1.out.trans (H49.out.live.bel.mono B1.out.size)).size)⟩
theorem sectorMirror_own : ownKnob Try.prog.godebug = none := by kernel_rfl
theorem sectorMirror_laid : laidOutB Try.prog = true := by kernel_rfl

set_option maxRecDepth 100000 in
theorem sectorMirror_lifted (os : Os) (started : os.Started) (H : Type) (enc : TypeId × Value → H) :
    ReturnsInHanded {} Try.checked os 14 .any (Rows.sectorMirrorSpec.pre6 enc Try.prog Try.f14 Rows.sectorMirrorRow.domain false) (Rows.sectorMirrorSpec.post enc Try.prog Try.f14 false true false false) := by
  refine returnsInHanded_of_change (C := Try.checked) sectorMirror_own started (by kernel_rfl) Try.func14
    (ChangeSpec.witness6 (enc := enc) (C := Try.checked) false ⟨#[], #[.int .u64 0, .slice none 0 0, .bool false, .int .u8 0, .int .u8 0], []⟩ 8 (by kernel_rfl) (by kernel_rfl) (by kernel_rfl) (by kernel_rfl)) ?_
  intro W base args ds gs before hval0 hW _ _
  have hval : ∀ (j : Nat) t v, Try.f14.params[j]? = some t → args[j]? = some v → Value.okWide Try.prog W .any base t v := hval0
  have hW' := hW
  obtain ⟨p, q, hA0, hV, rfl, hfz, hnd⟩ := hW
  have hA : DataW.TrodAll enc Try.prog W 0 (fun _ => true) true Try.f14.params.toList args.toList ds p := hA0
  rw [Try.params14] at hA hval
  obtain ⟨v0, vs0, d0, ds0, p0, q0, hargs, rfl, rfl, h0, r0⟩ := trodAll_cons hA
  obtain ⟨v1, vs1, d1, ds1, p1, q1, rfl, rfl, rfl, h1, r1⟩ := trodAll_cons r0
  obtain ⟨v2, vs2, d2, ds2, p2, q2, rfl, rfl, rfl, h2, r2⟩ := trodAll_cons r1
  obtain ⟨v3, vs3, d3, ds3, p3, q3, rfl, rfl, rfl, h3, r3⟩ := trodAll_cons r2
  obtain ⟨v4, vs4, d4, ds4, p4, q4, rfl, rfl, rfl, h4, r4⟩ := trodAll_cons r3
  obtain ⟨rfl, rfl, rfl⟩ := trodAll_nil r4
  obtain rfl : args = #[v0, v1, v2, v3, v4] := by cases args; simp_all
  obtain ⟨rfl, rfl⟩ := trodVars_none hV
  obtain ⟨a0, rfl, rfl, rfl, w0⟩ := open_int Try.underlying91 (hval 0 91 v0 rfl rfl) h0
  have b0 := bounds_u64 w0
  obtain ⟨a1, n1, c1, rfl⟩ := okWide_slice Try.underlying71 (hval 1 71 v1 rfl rfl)
  have lt1 : ∀ x ∈ p1, x.block < W.heap.size := by obtain ⟨m, hm⟩ := h1; exact DataW.trod_lt m _ _ _ hm
  obtain ⟨l1, hl1, hc1, hm1, hr1⟩ := open_bytes Try.underlying71 Try.underlying5 (by kernel_rfl) h1
  obtain ⟨a2, rfl, rfl, rfl⟩ := open_bool Try.underlying4 (hval 2 4 v2 rfl rfl) h2
  obtain ⟨a3, rfl, rfl, rfl, w3⟩ := open_int Try.underlying5 (hval 3 5 v3 rfl rfl) h3
  have b3 := bounds_u8 w3
  obtain ⟨a4, rfl, rfl, rfl, w4⟩ := open_int Try.underlying5 (hval 4 5 v4 rfl rfl) h4
  have b4 := bounds_u8 w4
  clear hA0 hval0
  refine (sectorMirror_any W a0 b0 a1 n1 c1 l1 hl1 hc1 hm1 hr1 a2 a3 b3 a4 b4).mono fun e W' ⟨he, bel⟩ => ?_
  subst he
  exact ⟨_, rfl, _, _, _, [], _, [], hW', trodAll_mk1 (shut_bool Try.underlying4 _), (trodAll_cons_mk (shut_int Try.underlying91 w0) (trodAll_cons_mk (Below.trod sectorMirror_laid (by kernel_rfl) (of_decide_eq_true (by kernel_rfl)) h1 bel lt1) (trodAll_cons_mk (shut_bool Try.underlying4 a2) (trodAll_cons_mk (shut_int Try.underlying5 w3) (trodAll_cons_mk (shut_int Try.underlying5 w4) trodAll_mk0))))), rfl, bel.frame _, fun h => by cases h⟩

theorem sectorMirror_holds : Rows.SectorMirrorSaid :=
  OpenClaim.holds_of_wide 14 Try.f14 rfl rfl rfl rfl rfl rfl rfl ⟨rfl, rfl, rfl, rfl, rfl⟩ rfl rfl rfl rfl rfl (by kernel_rfl) Try.func14 (by kernel_rfl)
    (of_decide_eq_true (by kernel_rfl)) (by unfold Func.isWrapper; rw [if_neg (of_decide_eq_false (by kernel_rfl))]; exact ⟨rfl, rfl⟩)
    (fun os started H enc _ => sectorMirror_lifted os started H enc)

#print axioms sectorMirror_holds

end Go.Proofs.Ytgfldfofiglefaa
