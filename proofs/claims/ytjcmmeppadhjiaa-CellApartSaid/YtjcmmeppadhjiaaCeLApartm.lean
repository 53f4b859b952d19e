/-
  CellApart holds: of any cell and number the law returns true, and its arguments read as they did.
-/
import Derived.Test.YtjcmmeppadhjiaaCa4
import Derived.Deep.Cut
import Derived.Deep.RegionHeld
import Derived.Test.YtjcmmeppadhjiaaRows
import Derived.ProofKit
import Derived.OpenShut
import Derived.ShutString
import Derived.ChangeOld
namespace Go.Proofs.Ytjcmmeppadhjiaa
open Go.RowKit Ce Go.ChangeShapes Go.WideShapes Go.ChangeAt
attribute [local go_sem ↓] Go.wp_at_zero Go.wp_at_succ
theorem own_capsA {w : World} {base n c : Nat} {A : Option Addr} {xs : List Value} (h : w.ownsRow base 5 1 (.slice A n c) n xs) : n ≤ c ∧ c ≤ maxLen := by
  rcases h.2 with ⟨hv, h0⟩ | ⟨g, cap, cur, hv, _, _, h1, h2, _⟩
  · injection hv with _ _ h3; subst h3; subst h0; exact ⟨Nat.le_refl _, Nat.zero_le _⟩
  · injection hv with _ _ h3; subst h3; exact ⟨h1, h2⟩
theorem own_rowA {w : World} {base n c : Nat} {A : Option Addr} {xs : List Value} (h : w.ownsRow base 5 1 (.slice A n c) n xs) (h0 : 0 < n) : ∃ g cur, A = some ⟨g, 0, none⟩ ∧ Blk w g cur 5 ∧ n ≤ cur.size := by
  rcases h.2 with ⟨_, h1⟩ | ⟨g, cap, cur, hv, hb, hg, hcp, _, hs, _⟩
  · omega
  · injection hv with e1 e2 e3
    subst e1
    exact ⟨g, cur, rfl, hg, by omega⟩
set_option maxRecDepth 100000 in
set_option maxHeartbeats 12800000 in
theorem cellApart_any (w : World) (x : Cl) (A : Option Addr) (c : Nat) (_ : x.okB) (_ : x.body.length ≤ c) (_ : c ≤ maxLen) (hr : Rd w.heap.size w A (bv x.body)) (b : Int) (_ : 0 ≤ b ∧ b ≤ 255) : Calls Try.prog 11 #[.agg (clA x A c), .int .u8 b] w (RetB (.bool true) w) := by
  obtain ⟨zc, hzc⟩ : ∃ z, z = clA zeroCl none 0 := ⟨_, rfl⟩
  have hzv : ∀ W, (zeroValue 27).run Try.prog W = .ok (.agg zc) W := fun _ => by rw [hzc]; kernel_rfl
  have HZC := Lib.hid hzc
  clear hzc
  obtain ⟨cs, hcs⟩ : ∃ cs, cs = clA x A c := ⟨_, rfl⟩
  rw [← hcs]
  obtain ⟨w0, hw0⟩ : ∃ v, v = (w.alloc (.cells cs 27)) := ⟨_, rfl⟩
  have BW := Lib.hid (show Below w.heap.size w w0 from by rw [hw0]; exact bel1 _ _)
  have X := Lib.hid (show Blk w0 (w.heap.size) cs 27 from by rw [hw0]; exact heap_alloc_new _ _)
  have HEN := Lib.hid (show ∀ W, Below w0.heap.size w0 W → Calls Try.prog 18 #[.agg cs] W (RetRowE (bv (encX x)) (errX x) W) from fun W hW => by rw [hcs]; exact encode_any x A c W ((hr.below BW.out).below (hW.mono BW.out.size)) (Nat.le_trans BW.out.size hW.size))
  have HRT := Lib.hid (show ∀ W, Calls Try.prog 15 #[.agg cs] W (RetB (.bool (decide (okCl x))) W) from fun W => by rw [hcs]; exact right_any x A c W)
  have HCR := Lib.hid (show ∀ W, Below w0.heap.size w0 W → Calls Try.prog 13 #[.agg cs] W (RetB (.bool (decide (okCl x))) W) from fun W hW => by rw [hcs]; exact cright_any x A c W ((hr.below BW.out).below (hW.mono BW.out.size)) (Nat.le_trans BW.out.size hW.size))
  have HSZ := Lib.hid (show ∀ W, Calls Try.prog 16 #[.agg cs] W (RetB (.int .i64 (if okCl x then ((encCl x).length : Int) else 0)) W) from fun W => by rw [hcs]; exact size_any x A c W)
  have HCE := Lib.hid (show okCl x → ∀ W, Below w0.heap.size w0 W → Calls Try.prog 14 #[.agg cs] W (RetRow 5 (bv (encCl x)) W) from fun ok W hW => by rw [hcs]; exact cencode_yes x ok A c W ((hr.below BW.out).below (hW.mono BW.out.size)) (Nat.le_trans BW.out.size hW.size))
  have HMO := Lib.hid (show ∀ W, Calls Try.prog 17 #[.agg cs] W (RetB (.bool (decide (x.kind = 1 ∨ x.kind = 2 ∨ x.kind = 3))) W) from fun W => by rw [hcs]; exact moment_cl x A c W)
  have HC := Lib.hid (show cs[0]? = some (.int .i64 x.kind) ∧ cs[10]? = some (.slice A x.body.length c) from by rw [hcs]; exact ⟨rfl, rfl⟩)
  have HI := Lib.hid (show (Try.prog.info? 27).map (·.size) = some cs.size from by rw [hcs]; kernel_rfl)
  have HO := Lib.hid (show cs.all (·.oneCell') = true from by rw [hcs]; simp [clA, Value.oneCell'])
  have HCS := Lib.hid hcs
  have HRD := Lib.hid (hr.below BW.out)
  obtain ⟨n, hn⟩ : ∃ n, n = x.body.length := ⟨_, rfl⟩
  rw [← hn] at HC
  have HN := Lib.hid hn
  have B := Lib.hid (Below.refl w0.heap.size w0)
  clear hcs hn hr
  go_enter Try.func11, Try.ntmps11
  go_upto_region 1 with fail
  rw [← hw0]
  clear hw0
  go_wp2_with fail
  refine (ceAwake_any _).mono ?_
  rintro e w1 ⟨rfl, bw⟩
  have B' := Lib.hid (B.out.trans (bw.mono B.out.size))
  clear bw B 
  have B := Lib.hid B'.out
  clear B' 
  have c10 := ((Blk.below X.out B.out).cell 10).trans HC.out.2
  by_cases hbig : 100 < n
  · have n1 : (100 : Int) < (n : Int) := by omega
    go_wp2_with fail
    go_ret
    exact ⟨rfl, BW.out.trans (B.out.mono BW.out.size)⟩
  have n1 : ¬ (100 : Int) < (n : Int) := by omega
  go_wp2_with (first
    | (refine wpList_execgC (v := .agg cs) (w' := w1) rfl ?hl ?_; case hl => exact exec_load 27 (.tmp 2) rfl rfl (Blk.below X.out B.out) Try.underlying27 rfl HI.out))
  clear c10 hbig n1
  refine (HEN.out _ B.out).mono ?_
  rintro e w2 ⟨AQ, nQ, cQ, rfl, ho, bw⟩
  have B' := Lib.hid (B.out.trans (bw.mono B.out.size))
  have Q := Lib.hid (own_more ho B.out.size)
  clear ho bw B 
  have B := Lib.hid B'.out
  clear B' 
  have LQ := Lib.hid (show nQ = (encX x).length from (own_blen Q.out).symm)
  have SW2 := Lib.hid B.out.size
  by_cases ok : okCl x
  rotate_left
  ·
    rw [show errX x = 3 from if_neg ok]
    clear ok
    go_wp2_with fail
    go_ret
    exact ⟨rfl, BW.out.trans (B.out.mono BW.out.size)⟩
  obtain ⟨EC, hEC⟩ : ∃ e, e = encCl x := ⟨_, rfl⟩
  have hq := Q.out
  rw [show encX x = encCl x from if_pos ok, ← hEC] at hq
  have QE := Lib.hid hq
  have LE := Lib.hid (own_blen hq)
  clear Q LQ hq
  have HQB := Lib.hid (show nQ ≤ 1000 from by
    have h1 := encCl_length ok
    have h2 := LE.out
    have h3 := HN.out
    have h4 := (okCl_body ok).2
    rw [← hEC] at h1
    unfold headN at h1
    split at h1 <;> split at h1 <;> split at h1 <;> split at h1 <;> omega)
  have HDQ := Lib.hid (show ∀ W, W.ownsRow w0.heap.size 5 1 (.slice AQ nQ cQ) nQ (bv EC) → Calls Try.prog 19 #[.slice AQ nQ cQ] W (RetDec x [] 0 W) from fun W h1 => by
    have h := decode_any AQ nQ cQ EC W LE.out (own_capsA h1) (Rd.own h1) (Nat.le_refl _) (by have := HQB.out; omega)
    have h5 := dec_enc ok []
    rw [List.append_nil, ← hEC] at h5
    rw [h5] at h
    simp only [if_true, List.drop_length] at h
    exact h)
  have HQL := Lib.hid (fun q hq => (QE.out.lt q hq).2)
  rw [show errX x = 0 from if_pos ok]
  obtain ⟨Z, hZ⟩ : ∃ Z : ByteArray, Z = ⟨EC.toArray⟩ := ⟨_, rfl⟩
  have HZ := Lib.hid hZ
  have hss := str_same hZ hZ
  rw [decide_eq_true rfl] at hss
  clear ok hEC hZ
  go_wp2_with (first
    | (show wpList _ _ _ ({ dst := some 30, op := _, type := _, pos := _, after := _, guard := _ } :: _) _ _; refine wpList_execgC (v := .string Z) (w' := w2) rfl ?hl ?_; case hl => (have kc := conv_rd (c := cQ) Try.underlying25 Try.underlying5 Try.underlying9 (Rd.own QE.out) LE.out; rw [← HZ.out] at kc; go_simp; try with_reducible rfl)))
  refine (HDQ.out _ QE.out).mono ?_
  rintro e w3 ⟨A9, c9, A10, c10, rfl, ho, hq, bw, hne⟩
  rw [← HN.out] at ho
  have O9 := Lib.hid ho
  have HL9 := Lib.hid (fun q hq => (ho.lt q hq))
  have SZ3 := Lib.hid bw.size
  clear ho hq hne
  have B' := Lib.hid (B.out.trans (bw.mono B.out.size))
  have QE' := Lib.hid (own_below QE.out bw)
  clear bw B QE
  have B := Lib.hid B'.out
  clear B'
  have QE := Lib.hid QE'.out
  clear QE'
  obtain ⟨csa, hcsa⟩ : ∃ cs, cs = clA x A9 c9 := ⟨_, rfl⟩
  rw [← hcsa]
  have HIa := Lib.hid (show (Try.prog.info? 27).map (·.size) = some csa.size from by rw [hcsa]; kernel_rfl)
  have HOa := Lib.hid (show csa.all (·.oneCell') = true from by rw [hcsa]; simp [clA, Value.oneCell'])
  have HZa := Lib.hid (show zc.size = csa.size from by rw [HZC.out, hcsa]; rfl)
  have HCSa := Lib.hid hcsa
  clear hcsa
  have HCa := Lib.hid (show csa[10]? = some (.slice A9 n c9) from by rw [HCSa.out, HN.out]; rfl)
  have HGA := Lib.hid (show ¬ (Value.slice A9 n c9).ownBlock = some w3.heap.size from fun h => by have := (HL9.out _ h).2; omega)
  go_upto_region 10 with (show wpList _ _ _ ({ dst := none, op := .store 27 (.tmp 8) (.tmp 34), type := _, pos := _, after := _, guard := _ } :: _) _ _; apply Classical.byContradiction; intro hneg)
  refine hneg ?_
  clear hneg
  refine wpList_store_row rfl 27 (.tmp 8) (.tmp 34) rfl w3.heap.size csa rfl rfl 27 zc (heap_alloc_new _ _) HIa.out HZa.out HOa.out ?_
  obtain ⟨w4, hw⟩ : ∃ v, v = (w3.alloc (.cells zc 27)).setRow w3.heap.size csa := ⟨_, rfl⟩
  obtain ⟨ga, hg⟩ : ∃ g, g = w3.heap.size := ⟨_, rfl⟩
  rw [← hw, ← hg]
  have bn : Below w3.heap.size w3 w4 := by rw [hw]; exact below_new (Below.refl _ _) (Nat.le_refl _)
  have Xa := Lib.hid (show Blk w4 ga csa 27 from by rw [hw, hg]; exact setRow_heap _ _ _ _ _ _ (heap_alloc_new _ _))
  have SB4 := Lib.hid bn.size
  have HGN := Lib.hid (show ¬ (Value.slice A9 n c9).ownBlock = some ga from by rw [hg]; exact HGA.out)
  have B' := Lib.hid (B.out.trans (bn.mono B.out.size))
  have QE' := Lib.hid (own_below QE.out bn)
  have O9' := Lib.hid (own_below O9.out bn)
  clear bn B QE O9
  have B := Lib.hid B'.out
  clear B'
  have QE := Lib.hid QE'.out
  clear QE'
  have O9 := Lib.hid O9'.out
  clear O9'
  clear hw hg
  go_wp2_with fail
  have HDS := Lib.hid (show ∀ q, (Value.slice AQ nQ cQ).ownBlock = some q → ¬ (Value.slice A9 n c9).ownBlock = some q from fun q h1 h2 => by have h3 := HQL.out q h1; have h4 := (HL9.out q h2).1; omega)
  have HLO := Lib.hid (show w0.heap.size ≤ w2.heap.size from SW2.out)
  go_loopw [11] (fun i wr => ∃ j : Nat, j ≤ n ∧ i = .int .i64 j ∧ But (fun q => (Value.slice A9 n c9).ownBlock = some q) w4 wr ∧ Hid (0 < n → ∃ g cur, A9 = some ⟨g, 0, none⟩ ∧ Blk wr g cur 5 ∧ n ≤ cur.size)) (fun i _ => n - (intOf i).toNat)
  case atStart => exact ⟨0, Nat.zero_le _, rfl, But.refl _, Lib.hid (fun h => own_rowA O9.out h)⟩
  case round =>
    obtain ⟨j, hj, rfl, hb, HGO⟩ := hrel
    have HB := Lib.hid hb
    clear hb
    have c10 := ((Xa.out.but HB.out HGN.out).cell 10).trans HCa.out
    by_cases hlt : j < n
    · obtain ⟨g, cur, hA, hcur, hsz⟩ := HGO.out (by omega)
      obtain ⟨v, hv⟩ : ∃ v, cur[j]? = some v := ⟨_, Array.getElem?_eq_getElem (by omega)⟩
      have C1 := (hcur.cell j).trans hv
      have C2 := hcur.free j
      have j0 : (0 : Int) ≤ (j : Int) := by omega
      have j1 : (j : Int) < (n : Int) := by omega
      have HC9 := Lib.hid hcur
      subst hA
      clear hv hcur HGO
      go_wp2
      go_roundw
      case rel => exact ⟨j + 1, by omega, by go_num, HB.out.setCell (.inl rfl) _, Lib.hid (fun _ => ⟨g, _, rfl, heap_setCell_same _ _ _ _ _ _ HC9.out, by rw [Array.size_setIfInBounds]; exact hsz⟩)⟩
      case measure => (simp [intOf]; try omega)
    · obtain rfl : n = j := by omega
      obtain ⟨wx, hwx⟩ : ∃ v, v = wr := ⟨_, rfl⟩
      subst hwx
      have QE' := Lib.hid (Own.but QE.out HB.out HDS.out)
      have B' := Lib.hid (B.out.trans (HB.out.below (fun q h1 h2 => by have h3 := (HL9.out q h2).1; have h4 := HLO.out; omega) B.out.size))
      have SWX := Lib.hid (show w2.heap.size ≤ wx.heap.size from Nat.le_trans SZ3.out (Nat.le_trans SB4.out HB.out.size))
      clear QE B HGO HB HDS O9 hlt hj
      have QE := Lib.hid QE'.out
      have B := Lib.hid B'.out
      clear QE' B'
      go_wp2_with (first
        | (show wpList _ _ _ ({ dst := some 52, op := _, type := _, pos := _, after := _, guard := _ } :: _) _ _; refine wpList_execgC (v := .string Z) (w' := wx) rfl ?hl ?_; case hl => (have kc := conv_rd (c := cQ) Try.underlying25 Try.underlying5 Try.underlying9 (Rd.own QE.out) LE.out; rw [← HZ.out] at kc; go_simp; try with_reducible rfl)))
      clear c10
      refine (HDQ.out _ QE.out).mono ?_
      rintro e w7 ⟨A12, c12, A13, c13, rfl, ho, hq, bw, hne⟩
      have O12 := Lib.hid ho
      have HL12 := Lib.hid (fun q hq => (ho.lt q hq))
      have SX7 := Lib.hid bw.size
      clear ho hq hne
      have B' := Lib.hid (B.out.trans (bw.mono B.out.size))
      have QE' := Lib.hid (own_below QE.out bw)
      clear bw B QE
      have B := Lib.hid B'.out
      clear B'
      have QE := Lib.hid QE'.out
      clear QE'
      obtain ⟨csz, hcsz⟩ : ∃ cs, cs = clA x A12 c12 := ⟨_, rfl⟩
      rw [← hcsz]
      have HIz := Lib.hid (show (Try.prog.info? 27).map (·.size) = some csz.size from by rw [hcsz]; kernel_rfl)
      have HOz := Lib.hid (show csz.all (·.oneCell') = true from by rw [hcsz]; simp [clA, Value.oneCell'])
      have HZz := Lib.hid (show zc.size = csz.size from by rw [HZC.out, hcsz]; rfl)
      have HCSz := Lib.hid hcsz
      clear hcsz
      have HGQ := Lib.hid (show ¬ (Value.slice AQ nQ cQ).ownBlock = some w7.heap.size from fun h => by have := (QE.out.lt _ h).2; omega)
      go_upto_region 19 with (show wpList _ _ _ ({ dst := none, op := .store 27 (.tmp 12) (.tmp 58), type := _, pos := _, after := _, guard := _ } :: _) _ _; apply Classical.byContradiction; intro hneg)
      refine hneg ?_
      clear hneg
      refine wpList_store_row rfl 27 (.tmp 12) (.tmp 58) rfl w7.heap.size csz rfl rfl 27 zc (heap_alloc_new _ _) HIz.out HZz.out HOz.out ?_
      obtain ⟨w8, hw⟩ : ∃ v, v = (w7.alloc (.cells zc 27)).setRow w7.heap.size csz := ⟨_, rfl⟩
      obtain ⟨gz, hg⟩ : ∃ g, g = w7.heap.size := ⟨_, rfl⟩
      rw [← hw, ← hg]
      have bn : Below w7.heap.size w7 w8 := by rw [hw]; exact below_new (Below.refl _ _) (Nat.le_refl _)
      have Xz := Lib.hid (show Blk w8 gz csz 27 from by rw [hw, hg]; exact setRow_heap _ _ _ _ _ _ (heap_alloc_new _ _))
      have SB8 := Lib.hid bn.size
      have HGZ := Lib.hid (show ¬ (Value.slice AQ nQ cQ).ownBlock = some gz from by rw [hg]; exact HGQ.out)
      have B' := Lib.hid (B.out.trans (bn.mono B.out.size))
      have QE' := Lib.hid (own_below QE.out bn)
      have O12' := Lib.hid (own_below O12.out bn)
      clear bn B QE O12
      have B := Lib.hid B'.out
      clear B'
      have QE := Lib.hid QE'.out
      clear QE'
      have O12 := Lib.hid O12'.out
      clear O12'
      clear hw hg
      go_wp2_with fail
      have HDT := Lib.hid (show ∀ q, (Value.slice A12 x.body.length c12).ownBlock = some q → ¬ (Value.slice AQ nQ cQ).ownBlock = some q from fun q h1 h2 => by have h3 := HQL.out q h2; have h4 := (HL12.out q h1).1; have h5 := SWX.out; omega)
      go_loopw [15] (fun i wr => ∃ j : Nat, j ≤ nQ ∧ i = .int .i64 j ∧ But (fun q => (Value.slice AQ nQ cQ).ownBlock = some q) w8 wr ∧ Hid (0 < nQ → ∃ g cur, AQ = some ⟨g, 0, none⟩ ∧ Blk wr g cur 5 ∧ nQ ≤ cur.size)) (fun i _ => nQ - (intOf i).toNat)
      case atStart => exact ⟨0, Nat.zero_le _, rfl, But.refl _, Lib.hid (fun h => own_rowA QE.out h)⟩
      case round =>
        obtain ⟨j, hj, rfl, hb, HGO⟩ := hrel
        have HB := Lib.hid hb
        clear hb
        by_cases hlt : j < nQ
        · obtain ⟨g, cur, hA, hcur, hsz⟩ := HGO.out (by omega)
          obtain ⟨v, hv⟩ : ∃ v, cur[j]? = some v := ⟨_, Array.getElem?_eq_getElem (by omega)⟩
          have C1 := (hcur.cell j).trans hv
          have C2 := hcur.free j
          have j0 : (0 : Int) ≤ (j : Int) := by omega
          have j1 : (j : Int) < (nQ : Int) := by omega
          have jq := HQB.out
          have HC9 := Lib.hid hcur
          subst hA
          clear hv hcur HGO
          go_wp2
          go_roundw
          case rel => exact ⟨j + 1, by omega, by go_num, HB.out.setCell (.inl rfl) _, Lib.hid (fun _ => ⟨g, _, rfl, heap_setCell_same _ _ _ _ _ _ HC9.out, by rw [Array.size_setIfInBounds]; exact hsz⟩)⟩
          case measure => (simp [intOf]; try omega)
        · obtain rfl : nQ = j := by omega
          obtain ⟨wy, hwy⟩ : ∃ v, v = wr := ⟨_, rfl⟩
          subst hwy
          have R12 := Lib.hid (Rd.own (Own.but O12.out HB.out HDT.out))
          have XZ := Lib.hid (Xz.out.but HB.out HGZ.out)
          have B' := Lib.hid (B.out.trans (HB.out.below (fun q h1 h2 => by have h3 := (QE.out.lt q h2).1; omega) B.out.size))
          clear QE B HGO HB HDT O12 hlt hj Xz
          have B := Lib.hid B'.out
          clear B'
          go_wp2_with (first
            | (refine wpList_execgC (v := .agg csz) (w' := wy) rfl ?hl ?_; case hl => exact exec_load 27 (.tmp 12) rfl rfl XZ.out Try.underlying27 rfl HIz.out)
            | (refine wpList_execgC (v := .agg cs) (w' := wy) rfl ?hl ?_; case hl => exact exec_load 27 (.tmp 2) rfl rfl (Blk.below X.out B.out) Try.underlying27 rfl HI.out))
          have hsame := same_any x x A12 A c12 c wy R12.out ((HRD.out.below (B.out.mono BW.out.size)).more (Nat.le_trans BW.out.size B.out.size)) (Nat.le_refl _)
          rw [← HCS.out, ← HCSz.out, decide_eq_true rfl] at hsame
          refine hsame.mono ?_
          rintro e w14 ⟨rfl, bw⟩
          clear hsame
          have B' := Lib.hid (B.out.trans (bw.mono B.out.size))
          clear bw B
          have B := Lib.hid B'.out
          clear B'
          go_wp2_with fail
          go_ret
          exact ⟨rfl, BW.out.trans (B.out.mono BW.out.size)⟩
theorem cellApart_own : ownKnob Try.prog.godebug = none := by kernel_rfl
theorem cellApart_laid : laidOutB Try.prog = true := by kernel_rfl

set_option maxRecDepth 100000 in
theorem cellApart_lifted (os : Os) (started : os.Started) (H : Type) (enc : TypeId × Value → H) :
    ReturnsInHanded {} Try.checked os 11 .any (Rows.cellApartSpec.pre6 enc Try.prog Try.f11 Rows.cellApartRow.domain false) (Rows.cellApartSpec.post enc Try.prog Try.f11 false true false false) := by
  refine returnsInHanded_of_change (C := Try.checked) cellApart_own started (by kernel_rfl) Try.func11
    (ChangeSpec.witness6 (enc := enc) (C := Try.checked) false ⟨#[], #[.agg #[.int .i64 0, .int .u64 0, .int .i64 0, .int .i64 0, .int .i64 0, .int .i64 0, .int .u64 0, .int .i64 0, .int .i64 0, .int .i64 0, .slice none 0 0], .int .u8 0], []⟩ 8 (by kernel_rfl) (by kernel_rfl) (by kernel_rfl) (by kernel_rfl)) ?_
  intro W base args ds gs before hval0 hW _ _
  have hval : ∀ (j : Nat) t v, Try.f11.params[j]? = some t → args[j]? = some v → Value.okWide Try.prog W .any base t v := hval0
  have hW' := hW
  obtain ⟨p, q, hA0, hV, rfl, hfz, hnd⟩ := hW
  have hA : DataW.TrodAll enc Try.prog W 0 (fun _ => true) true Try.f11.params.toList args.toList ds p := hA0
  rw [Try.params11] at hA hval
  obtain ⟨v0, vs0, d0, ds0, p0, q0, hargs, rfl, rfl, h0, r0⟩ := trodAll_cons hA
  obtain ⟨v1, vs1, d1, ds1, p1, q1, rfl, rfl, rfl, h1, r1⟩ := trodAll_cons r0
  obtain ⟨rfl, rfl, rfl⟩ := trodAll_nil r1
  obtain rfl : args = #[v0, v1] := by cases args; simp_all
  obtain ⟨rfl, rfl⟩ := trodVars_none hV
  have lt0 : ∀ x ∈ p0, x.block < W.heap.size := by obtain ⟨m, hm⟩ := h0; exact DataW.trod_lt m _ _ _ hm
  obtain ⟨y0, a0, c0, rfl, hb0, hc0, hm0, hr0⟩ := Ce.open_cellA (hval 0 27 v0 rfl rfl) h0
  obtain ⟨a1, rfl, rfl, rfl, w1⟩ := open_int Try.underlying5 (hval 1 5 v1 rfl rfl) h1
  have b1 := bounds_u8 w1
  clear hA0 hval0
  refine (cellApart_any W y0 a0 c0 hb0 hc0 hm0 hr0 a1 b1).mono fun e W' ⟨he, bel⟩ => ?_
  subst he
  exact ⟨_, rfl, _, _, _, [], _, [], hW', trodAll_mk1 (shut_bool Try.underlying4 _), (trodAll_cons_mk (Below.trod cellApart_laid (by kernel_rfl) (of_decide_eq_true (by kernel_rfl)) h0 bel lt0) (trodAll_cons_mk (shut_int Try.underlying5 w1) trodAll_mk0)), rfl, bel.frame _, fun h => by cases h⟩

theorem cellApart_holds : Rows.CellApartSaid :=
  OpenClaim.holds_of_wide 11 Try.f11 rfl rfl rfl rfl rfl rfl rfl ⟨rfl, rfl, rfl, rfl, rfl⟩ rfl rfl rfl rfl rfl (by kernel_rfl) Try.func11 (by kernel_rfl)
    (of_decide_eq_true (by kernel_rfl)) (by unfold Func.isWrapper; rw [if_neg (of_decide_eq_false (by kernel_rfl))]; exact ⟨rfl, rfl⟩)
    (fun os started H enc _ => cellApart_lifted os started H enc)

#print axioms cellApart_holds

end Go.Proofs.Ytjcmmeppadhjiaa
