/-
  CipherApart holds: of every key and bytes the law returns true, and its arguments read as they did.
-/
import Derived.Test.YtobkkbpeoohfkaaCiReal
import Derived.Test.YtobkkbpeoohfkaaCiSum
import Derived.Test.YtobkkbpeoohfkaaCiAwake
import Derived.Test.YtobkkbpeoohfkaaOpen
import Derived.Test.YtobkkbpeoohfkaaOpenA
import Derived.ProofKit
import Derived.OpenShut
import Derived.ShutString
import Derived.ChangeOld
namespace Go.Proofs.Ytobkkbpeoohfkaa
open Go.RowKit Go.ChangeShapes Go.WideShapes Go.ChangeAt
attribute [local go_sem ↓] Go.wp_at_zero Go.wp_at_succ
theorem eq_key' (a : List UInt8) (ha : a.length = 32) (w : World) : (Op.equalIn 10000 23 (.agg (bva a)) (.agg (bva a))).run Try.prog w = .ok true w := by
  obtain ⟨i, hi⟩ : ∃ i, Try.prog.info? 5 = some i := Option.isSome_iff_exists.1 (by kernel_rfl)
  rw [run_equal_bytes w Try.underlying23 Try.underlying5 hi (by kernel_rfl) a a ha ha, decide_eq_true rfl]
theorem eq_block' (a : List UInt8) (ha : a.length = 32) (w : World) : (Op.equalIn 10000 30 (.agg (bva a)) (.agg (bva a))).run Try.prog w = .ok true w := by
  obtain ⟨i, hi⟩ : ∃ i, Try.prog.info? 5 = some i := Option.isSome_iff_exists.1 (by kernel_rfl)
  rw [run_equal_bytes w Try.underlying30 Try.underlying5 hi (by kernel_rfl) a a ha ha, decide_eq_true rfl]
theorem eq_sum' (a : List UInt8) (ha : a.length = 16) (w : World) : (Op.equalIn 10000 35 (.agg (bva a)) (.agg (bva a))).run Try.prog w = .ok true w := by
  obtain ⟨i, hi⟩ : ∃ i, Try.prog.info? 5 = some i := Option.isSome_iff_exists.1 (by kernel_rfl)
  rw [run_equal_bytes w Try.underlying35 Try.underlying5 hi (by kernel_rfl) a a ha ha, decide_eq_true rfl]
theorem info_real' : (Try.prog.info? 27).map (·.size) = some (#[] : Array Value).size := by kernel_rfl
theorem front_range {w : World} {g : Nat} {l : List UInt8} {t : TypeId} (h : Blk w g (bva l) t) (n : Nat) : w.rangeAt g 0 (bv (l.take n)) := fun j v hv => by
  rw [Nat.zero_add, h.cell, bva, List.getElem?_toArray]
  exact bv_take_get hv
set_option maxRecDepth 100000 in
set_option maxHeartbeats 6400000 in
theorem cipherApart_any (w : World) (k : List UInt8) (hk : k.length = 32) (A : Option Addr) (n c : Nat) (l : List UInt8) (hl : l.length = n) (hc : n ≤ c) (hm : c ≤ maxLen) (hr : Rd w.heap.size w A (bv l)) :
    Calls Try.prog 7 #[.agg (bva k), .slice A n c] w (RetB (.bool true) w) := by
  obtain ⟨z, hz0⟩ : ∃ z : List UInt8, z = List.replicate 32 0 := ⟨_, rfl⟩
  have hz : ∀ W, (zeroValue 23).run Try.prog W = .ok (.agg (bva z)) W := fun _ => by rw [hz0]; kernel_rfl
  have Z3 : Hid (z.length = 32) := by show _ = _; rw [hz0]; rfl
  have b1 : Blk (w.alloc (.cells (bva k) 23)) w.heap.size (bva k) 23 := heap_alloc_new _ _
  have hb : Below w.heap.size w (w.alloc (.cells (bva k) 23)) := (Below.refl _ _).alloc (Nat.le_refl _) _
  obtain ⟨x, hx⟩ : ∃ x, x = Ci.leftL k := ⟨_, rfl⟩
  have hx3 : x.length = 32 := by rw [hx]; exact Ci.leftL_length k
  obtain ⟨y, hy⟩ : ∃ y, y = Ci.rightL k := ⟨_, rfl⟩
  have hy3 : y.length = 32 := by rw [hy]; exact Ci.rightL_length k
  obtain ⟨p, hp⟩ : ∃ p, p = Ci.rpadL k 1 := ⟨_, rfl⟩
  have hp3 : p.length = 32 := by rw [hp]; exact Ci.rpadL_length k 1
  obtain ⟨mi, hmi⟩ : ∃ mi, mi = shaL (k ++ l) := ⟨_, rfl⟩
  have hmi3 : mi.length = 32 := by rw [hmi]; exact shaL_length _
  obtain ⟨o, ho⟩ : ∃ o, o = shaL (k ++ mi) := ⟨_, rfl⟩
  have ho3 : o.length = 32 := by rw [ho]; exact shaL_length _
  obtain ⟨sm, hsm⟩ : ∃ sm, sm = sealL k l := ⟨_, rfl⟩
  have hsm3 : sm.length = 16 := by rw [hsm]; exact sealL_length _ _
  have hso : o.take 16 = sm := by rw [hsm, sealL, ho, hmi]
  have heqx := eq_key' x hx3
  have heqy := eq_key' y hy3
  have heqp := eq_block' p hp3
  have heqs := eq_sum' sm hsm3
  have HX := Lib.hid hx
  have HY := Lib.hid hy
  have HP := Lib.hid hp
  have HMI := Lib.hid hmi
  have HO := Lib.hid ho
  have HSM := Lib.hid hsm
  have HSO := Lib.hid hso
  have X3 := Lib.hid hx3
  have Y3 := Lib.hid hy3
  have M3 := Lib.hid hmi3
  have OL3 := Lib.hid ho3
  have HIR := Lib.hid info_real'
  have HIX : Hid ((Try.prog.info? 23).map (·.size) = some (bva x).size) := by rw [bva_size, hx3]; exact Ci.info_key
  have HIY : Hid ((Try.prog.info? 23).map (·.size) = some (bva y).size) := by rw [bva_size, hy3]; exact Ci.info_key
  have HIM : Hid ((Try.prog.info? 23).map (·.size) = some (bva mi).size) := by rw [bva_size, hmi3]; exact Ci.info_key
  have HIO : Hid ((Try.prog.info? 23).map (·.size) = some (bva o).size) := by rw [bva_size, ho3]; exact Ci.info_key
  have HIS : Hid ((Try.prog.info? 35).map (·.size) = some (bv (o.take 16)).length) := by rw [bv_length, hso, hsm3]; exact info_sum
  have HI : Hid ((Try.prog.info? 23).map (·.size) = some (bva k).size) := by rw [bva_size, hk]; exact Ci.info_key
  have B1 := Lib.hid b1
  have BB := Lib.hid hb
  have HK := Lib.hid hk
  have HL := Lib.hid hl
  have HC := Lib.hid hc
  have HM := Lib.hid hm
  have HR := Lib.hid hr
  clear b1 hb hx hx3 hk hy hy3 hp hp3 hz0 hmi hmi3 ho ho3 hsm hsm3 hso hl hc hm hr
  by_cases hn : n ≤ 80
  · have hn' : decide ((80 : Int) < (n : Int)) = false := by simp; omega
    go_enter Try.func7, Try.ntmps7
    go_wp2_with fail
    refine (Ci.ciAwake_any _).mono ?_
    rintro e w1 ⟨rfl, bw⟩
    have c1 := B1.out.below bw
    have cb := BB.out.trans (bw.mono BB.out.size)
    have hw1 : w.heap.size < w1.heap.size := c1.lt
    have C1 := Lib.hid (show Blk (w1.alloc (.cells #[] 27)) w.heap.size (bva k) 23 from (heap_alloc_old _ _ c1.lt).trans c1)
    have C2 := Lib.hid (show Blk (w1.alloc (.cells #[] 27)) w1.heap.size #[] 27 from heap_alloc_new _ _)
    have CB := Lib.hid (cb.alloc cb.size (.cells #[] 27))
    clear bw B1 BB c1 cb
    go_wp2_with (first
      | (refine wpList_load_row rfl 27 (.tmp 5) rfl w1.heap.size rfl 27 #[] (0, 0) _ C2.out Try.underlying27 rfl HIR.out ?_)
      | (refine wpList_load_row rfl 23 (.tmp 2) rfl w.heap.size rfl 23 (bva k) (0, 0) _ C1.out Try.underlying23 rfl HI.out ?_))
    refine (Ci.realsplit_any k HK.out _).mono ?_
    rintro e w2 ⟨rfl, bw⟩
    rw [← HX.out, ← HY.out]
    have D1 := Lib.hid (C1.out.below bw)
    have D2 := Lib.hid (C2.out.below bw)
    have DB := Lib.hid (CB.out.trans (bw.mono CB.out.size))
    have hw2 : w1.heap.size < w2.heap.size := D2.out.lt
    clear bw C1 C2 CB
    go_wp2_with (first
      | (refine wpList_store_row rfl 23 (.tmp 6) (.tmp 21) rfl w2.heap.size (bva x) rfl rfl 23 (bva z) (heap_alloc2_old _ _ _) HIX.out (by simp only [bva_size, X3.out, Z3.out]) (bva_one _) ?_
         generalize hwx : World.setRow _ _ _ = wxE
         have e0 : Blk wxE w.heap.size (bva k) 23 := by rw [← hwx]; exact Ci.blk_row (Ci.blk_old2 D1.out) (by have := D1.out.lt; omega)
         have e1 : Blk wxE w1.heap.size #[] 27 := by rw [← hwx]; exact Ci.blk_row (Ci.blk_old2 D2.out) (by have := D2.out.lt; omega)
         have ex : Blk wxE w2.heap.size (bva x) 23 := by rw [← hwx]; exact setRow_heap _ _ _ _ _ _ (heap_alloc2_old _ _ _)
         have ey : Blk wxE (w2.heap.size + 1) (bva z) 23 := by rw [← hwx]; exact Ci.blk_row (heap_alloc2_new _ _ _) (by omega)
         have eb : Below w.heap.size w wxE := by rw [← hwx]; exact below_setRow (Ci.below_alloc2 DB.out DB.out.size) DB.out.size _
         have G0 := Lib.hid e0
         have G1 := Lib.hid e1
         have GX := Lib.hid ex
         have GY := Lib.hid ey
         have GB := Lib.hid eb
         clear hwx ex ey eb e0 e1 D1 D2 DB)
      | (refine wpList_store_row rfl 23 (.tmp 7) (.tmp 22) rfl (w2.heap.size + 1) (bva y) rfl rfl 23 (bva z) GY.out HIY.out (by simp only [bva_size, Y3.out, Z3.out]) (bva_one _) ?_
         generalize hwy : World.setRow _ _ _ = wyE
         have e0 : Blk wyE w.heap.size (bva k) 23 := by rw [← hwy]; exact Ci.blk_row G0.out (by omega)
         have e1 : Blk wyE w1.heap.size #[] 27 := by rw [← hwy]; exact Ci.blk_row G1.out (by omega)
         have ex : Blk wyE w2.heap.size (bva x) 23 := by rw [← hwy]; exact Ci.blk_row GX.out (by omega)
         have ey : Blk wyE (w2.heap.size + 1) (bva y) 23 := by rw [← hwy]; exact setRow_heap _ _ _ _ _ _ GY.out
         have eb : Below w.heap.size w wyE := by rw [← hwy]; exact below_setRow GB.out (by omega) _
         have Eo0 := Lib.hid e0
         have Eo1 := Lib.hid e1
         have E1 := Lib.hid ex
         have E2 := Lib.hid ey
         have Eb := Lib.hid eb
         clear hwy ex ey eb e0 e1 G0 G1 GX GY GB)
      | (refine wpList_load_row rfl 27 (.tmp 5) rfl w1.heap.size rfl 27 #[] (0, 0) _ Eo1.out Try.underlying27 rfl HIR.out ?_)
      | (refine wpList_load_row rfl 23 (.tmp 2) rfl w.heap.size rfl 23 (bva k) (0, 0) _ Eo0.out Try.underlying23 rfl HI.out ?_))
    refine (Ci.realsplit_any k HK.out _).mono ?_
    rintro e w3 ⟨rfl, bw⟩
    rw [← HX.out, ← HY.out]
    have hwy : w2.heap.size + 1 < w3.heap.size := by have h1 := E2.out.lt; have h2 := bw.size; omega
    have F1 := Lib.hid (Eo0.out.below bw)
    have F2 := Lib.hid (Eo1.out.below bw)
    have F3 := Lib.hid (E1.out.below bw)
    have F4 := Lib.hid (E2.out.below bw)
    have FB := Lib.hid (Eb.out.trans (bw.mono Eb.out.size))
    clear bw Eo0 Eo1 E1 E2 Eb
    go_wp2_with (first
      | (refine wpList_store_row rfl 23 (.tmp 8) (.tmp 27) rfl w3.heap.size (bva x) rfl rfl 23 (bva z) (heap_alloc2_old _ _ _) HIX.out (by simp only [bva_size, X3.out, Z3.out]) (bva_one _) ?_
         generalize hwx : World.setRow _ _ _ = wxH
         have e0 : Blk wxH w.heap.size (bva k) 23 := by rw [← hwx]; exact Ci.blk_row (Ci.blk_old2 F1.out) (by have := F1.out.lt; omega)
         have e1 : Blk wxH w1.heap.size #[] 27 := by rw [← hwx]; exact Ci.blk_row (Ci.blk_old2 F2.out) (by have := F2.out.lt; omega)
         have e2 : Blk wxH w2.heap.size (bva x) 23 := by rw [← hwx]; exact Ci.blk_row (Ci.blk_old2 F3.out) (by have := F3.out.lt; omega)
         have e3 : Blk wxH (w2.heap.size + 1) (bva y) 23 := by rw [← hwx]; exact Ci.blk_row (Ci.blk_old2 F4.out) (by have := F4.out.lt; omega)
         have ex : Blk wxH w3.heap.size (bva x) 23 := by rw [← hwx]; exact setRow_heap _ _ _ _ _ _ (heap_alloc2_old _ _ _)
         have ey : Blk wxH (w3.heap.size + 1) (bva z) 23 := by rw [← hwx]; exact Ci.blk_row (heap_alloc2_new _ _ _) (by omega)
         have eb : Below w.heap.size w wxH := by rw [← hwx]; exact below_setRow (Ci.below_alloc2 FB.out FB.out.size) FB.out.size _
         have G0 := Lib.hid e0
         have G1 := Lib.hid e1
         have G2 := Lib.hid e2
         have G3 := Lib.hid e3
         have GX := Lib.hid ex
         have GY := Lib.hid ey
         have GB := Lib.hid eb
         clear hwx ex ey eb e0 e1 e2 e3 F1 F2 F3 F4 FB)
      | (refine wpList_store_row rfl 23 (.tmp 9) (.tmp 28) rfl (w3.heap.size + 1) (bva y) rfl rfl 23 (bva z) GY.out HIY.out (by simp only [bva_size, Y3.out, Z3.out]) (bva_one _) ?_
         generalize hwy : World.setRow _ _ _ = wyH
         have e0 : Blk wyH w.heap.size (bva k) 23 := by rw [← hwy]; exact Ci.blk_row G0.out (by omega)
         have e1 : Blk wyH w1.heap.size #[] 27 := by rw [← hwy]; exact Ci.blk_row G1.out (by omega)
         have e2 : Blk wyH w2.heap.size (bva x) 23 := by rw [← hwy]; exact Ci.blk_row G2.out (by omega)
         have e3 : Blk wyH (w2.heap.size + 1) (bva y) 23 := by rw [← hwy]; exact Ci.blk_row G3.out (by omega)
         have ex : Blk wyH w3.heap.size (bva x) 23 := by rw [← hwy]; exact Ci.blk_row GX.out (by omega)
         have ey : Blk wyH (w3.heap.size + 1) (bva y) 23 := by rw [← hwy]; exact setRow_heap _ _ _ _ _ _ GY.out
         have eb : Below w.heap.size w wyH := by rw [← hwy]; exact below_setRow GB.out (by omega) _
         have Ho0 := Lib.hid e0
         have Ho1 := Lib.hid e1
         have Ho2 := Lib.hid e2
         have Ho3 := Lib.hid e3
         have H1 := Lib.hid ex
         have H2 := Lib.hid ey
         have Hb := Lib.hid eb
         clear hwy ex ey eb e0 e1 e2 e3 G0 G1 G2 G3 GX GY GB)
      | (at_builtin
         refine wpList_app _ rfl (.tmp 29) (.tmp 30) 33 rfl Wi.bytesElt (base := wyH.heap.size) (v := .slice (some ⟨wyH.heap.size, 0, none⟩) 0 0) rfl (own_of_blk (l := []) (heap_alloc_new _ _) rfl (Nat.zero_le _) (Nat.le_refl _)) (m := 32) rfl (Ci.rd_bva (Ci.blk_old1 Ho0.out)) (by rw [bv_length]; exact HK.out) (bv_one _) ?_ ?_ ?_
         · omega
         · simp
         intro A5 c5 wa hown hgr _
         have hbb : Below wyH.heap.size wyH wa := app_below ((Below.refl _ _).alloc (Nat.le_refl _) _) (own_of_blk (l := []) (heap_alloc_new wyH _) rfl (Nat.zero_le _) (Nat.le_refl _)) hgr (Nat.le_refl _) (by simp)
         rw [bv_nil, List.nil_append] at hown
         have O5 := Lib.hid (own_eq hown (Nat.zero_add 32) rfl)
         have e3 : Value.slice A5 (0 + 32) c5 = .slice A5 32 c5 := slice_eq (Nat.zero_add 32)
         rw [e3]
         have hQ0 := hbb.size
         have QA := Lib.hid hbb
         clear e3 hown hgr hbb)
      | (at_builtin
         refine wpList_app _ rfl (.tmp 31) (.tmp 32) 33 rfl Wi.bytesElt (base := wyH.heap.size) (v := .slice A5 32 c5) rfl O5.out (m := n) rfl (HR.out.below (Hb.out.trans (QA.out.mono Hb.out.size))) ((bv_length l).trans HL.out) (bv_one _) ?_ ?_ ?_
         · omega
         · exact hQ0
         intro A6 c6 wb hown hgr _
         have hbb : Below wyH.heap.size wyH wb := app_below QA.out O5.out hgr (Nat.le_refl _) hQ0
         have O6 := Lib.hid (own_eq hown rfl (xs' := bv (k ++ l)) (by rw [bv_append]))
         have QB := Lib.hid hbb
         clear hown hgr hbb O5 QA))
    refine (sum_any A6 (32 + n) c6 (k ++ l) _ (by rw [List.length_append, HK.out, HL.out]) (Nat.le_refl _) (Rd.own O6.out) (by omega)).mono ?_
    rintro e wi ⟨rfl, bw⟩
    rw [← HMI.out]
    have hQ := QB.out.trans (bw.mono QB.out.size)
    have I0 := Lib.hid (Ho0.out.below hQ)
    have I1 := Lib.hid (Ho1.out.below hQ)
    have I2 := Lib.hid (Ho2.out.below hQ)
    have I3 := Lib.hid (Ho3.out.below hQ)
    have I4 := Lib.hid (H1.out.below hQ)
    have I5 := Lib.hid (H2.out.below hQ)
    have IB := Lib.hid (Hb.out.trans (hQ.mono Hb.out.size))
    clear bw hQ hQ0 O6 QB Ho0 Ho1 Ho2 Ho3 H1 H2 Hb
    go_wp2_with (refine wpList_store_row rfl 23 (.tmp 10) (.tmp 34) rfl wi.heap.size (bva mi) rfl rfl 23 (bva z) (heap_alloc_new _ _) HIM.out (by simp only [bva_size, M3.out, Z3.out]) (bva_one _) ?_
                 generalize hws : World.setRow _ _ _ = ws
                 have d0 : Blk ws w.heap.size (bva k) 23 := by rw [← hws]; exact blk_past I0.out
                 have d1 : Blk ws w1.heap.size #[] 27 := by rw [← hws]; exact blk_past I1.out
                 have d2 : Blk ws w2.heap.size (bva x) 23 := by rw [← hws]; exact blk_past I2.out
                 have d3 : Blk ws (w2.heap.size + 1) (bva y) 23 := by rw [← hws]; exact blk_past I3.out
                 have d4 : Blk ws w3.heap.size (bva x) 23 := by rw [← hws]; exact blk_past I4.out
                 have d5 : Blk ws (w3.heap.size + 1) (bva y) 23 := by rw [← hws]; exact blk_past I5.out
                 have dm : Blk ws wi.heap.size (bva mi) 23 := by rw [← hws]; exact blk_new _
                 have db : Below w.heap.size w ws := by rw [← hws]; exact below_new IB.out IB.out.size
                 have D0 := Lib.hid d0
                 have D1 := Lib.hid d1
                 have D2 := Lib.hid d2
                 have D3 := Lib.hid d3
                 have D4 := Lib.hid d4
                 have D5 := Lib.hid d5
                 have DM := Lib.hid dm
                 have DB := Lib.hid db
                 clear d0 d1 d2 d3 d4 d5 dm db hws I0 I1 I2 I3 I4 I5 IB)
    simp only [Act.put]
    have hdr : ws.drew.heap.size = ws.heap.size := rfl
    refine wp_region_any (by kernel_rfl) ?_
    change wpAny _ _ _ _ _ _ _ (World.drew _)
    refine wpAny_take (i := 1) (v := ?v1) rfl (by kernel_rfl) (by kernel_rfl) (by kernel_rfl) (fun _ _ _ h => h) (Or.inl ⟨by rfl, ?y1⟩) ?_
    case y1 => (intro w'; go_simp; try with_reducible rfl)
    refine wpAny_take (i := 3) (v := ?v3) rfl (by kernel_rfl) (by kernel_rfl) (by kernel_rfl) (fun _ _ _ h => h) (Or.inl ⟨by rfl, ?y3⟩) ?_
    case y3 => (intro w'; go_simp; try with_reducible rfl)
    have Y0 : Hid (Below ws.heap.size ws ws.drew) := (Below.refl _ _).drew
    try simp only [List.getElem_toArray, List.getElem_cons_succ, List.getElem_cons_zero, Act.put, List.setIfInBounds_toArray, List.set_cons_zero, List.set_cons_succ]
    refine wpAny_ready (rs := [0, 6]) (by kernel_rfl) (by simp) (AllReady.cons rfl (fun K hK => ?_) (AllReady.cons rfl (fun K hK => ?_) AllReady.nil))
    · skip
      go_simp
      refine hK _ _ ?_
      clear hK K
      have Y1 : Hid (Below ws.heap.size ws (World.alloc ws.drew (.cells #[] 5))) := Y0.out.alloc Y0.out.size _
      have O1 : Hid (World.ownsRow (World.alloc ws.drew (.cells #[] 5)) ws.heap.size 5 1 (.slice (some ⟨ws.heap.size, 0, none⟩) 0 0) 0 (bv [])) := by
        have h := World.ownsRow_lit (base := ws.heap.size) (size := 1) (e := 5) ws.drew #[] 0 Y0.out.size (Nat.zero_le _) rfl
        rw [show ws.drew.heap.size = ws.heap.size from rfl] at h
        exact h
      try simp only [List.getElem_toArray, List.getElem_cons_succ, List.getElem_cons_zero, Act.put, List.setIfInBounds_toArray, List.set_cons_zero, List.set_cons_succ]
      refine wpAny_ready (rs := [2, 6]) (by kernel_rfl) (by simp) (AllReady.cons rfl (fun K hK => ?_) (AllReady.cons rfl (fun K hK => ?_) AllReady.nil))
      · skip
        refine step_app _ (by rfl) (.tmp 35) (.tmp 36) _ rfl Wi.bytesElt (base := ws.heap.size) (v := .slice (some ⟨ws.heap.size, 0, none⟩) 0 0) rfl O1.out (m := 32) rfl (Ci.rd_bva (D0.out.below (Y1.out))) ((bv_length k).trans HK.out) (bv_one _) ?_ ?_ ?_
        · omega
        · exact Y1.out.size
        intro Aa2 ca2 wa2 ho hg hor
        have Y2 := Lib.hid (app_below Y1.out O1.out hg (Nat.le_refl _) Y1.out.size)
        have O2 := Lib.hid (own_eq ho (n' := 32) (by omega) (xs' := bv (k)) rfl)
        clear ho hg hor O1 Y1
        refine hK _ _ ?_
        clear hK K
        try simp only [List.getElem_toArray, List.getElem_cons_succ, List.getElem_cons_zero, Act.put, List.setIfInBounds_toArray, List.set_cons_zero, List.set_cons_succ]
        refine wpAny_ready (rs := [4, 6]) (by kernel_rfl) (by simp) (AllReady.cons rfl (fun K hK => ?_) (AllReady.cons rfl (fun K hK => ?_) AllReady.nil))
        · skip
          refine step_app _ (by rfl) (.tmp 37) (.tmp 38) _ rfl Wi.bytesElt (base := ws.heap.size) (v := .slice Aa2 32 ca2) rfl O2.out (m := 32) rfl (Ci.rd_bva (DM.out.below (Y2.out))) ((bv_length mi).trans M3.out) (bv_one _) ?_ ?_ ?_
          · omega
          · exact Y2.out.size
          intro Aa3 ca3 wa3 ho hg hor
          have Y3 := Lib.hid (app_below Y2.out O2.out hg (Nat.le_refl _) Y2.out.size)
          have O3 := Lib.hid (own_eq ho (n' := 64) (by omega) (xs' := bv (k ++ mi)) (by rw [bv_append]))
          clear ho hg hor O2 Y2
          refine hK _ _ ?_
          clear hK K
          try simp only [List.getElem_toArray, List.getElem_cons_succ, List.getElem_cons_zero, Act.put, List.setIfInBounds_toArray, List.set_cons_zero, List.set_cons_succ]
          refine wpAny_ready (rs := [5, 6]) (by kernel_rfl) (by simp) (AllReady.cons rfl (fun K hK => ?_) (AllReady.cons rfl (fun K hK => ?_) AllReady.nil))
          · skip
            go_simp
            refine (sum_any Aa3 64 ca3 (k ++ mi) _ (by rw [List.length_append, HK.out, M3.out]) (Nat.le_refl _) (Rd.own O3.out) (by omega)).mono ?_
            rintro e wb4 ⟨rfl, bw⟩
            rw [← HO.out]
            have Y4 := Lib.hid (Y3.out.trans (bw.mono Y3.out.size))
            clear bw O3 Y3
            go_simp
            refine hK _ _ ?_
            clear hK K
            try simp only [List.getElem_toArray, List.getElem_cons_succ, List.getElem_cons_zero, Act.put, List.setIfInBounds_toArray, List.set_cons_zero, List.set_cons_succ]
            refine wpAny_ready (rs := [6]) (by kernel_rfl) (by simp) (AllReady.cons rfl (fun K hK => ?_) AllReady.nil)
            · skip
              go_simp
              refine hK _ _ ?_
              clear hK K
              have T5 : Hid (Blk (World.alloc wb4 (.cells (bva z) 23)) (wb4.heap.size) (bva z) 23) := heap_alloc_new _ _
              have Y5 : Hid (Below ws.heap.size ws (World.alloc wb4 (.cells (bva z) 23))) := Y4.out.alloc Y4.out.size _
              have hz5 : ws.heap.size ≤ wb4.heap.size := by have := Y4.out.size; (try simp at this); omega
              try simp only [List.getElem_toArray, List.getElem_cons_succ, List.getElem_cons_zero, Act.put, List.setIfInBounds_toArray, List.set_cons_zero, List.set_cons_succ]
              refine wpAny_ready (rs := [7]) (by kernel_rfl) (by simp) (AllReady.cons rfl (fun K hK => ?_) AllReady.nil)
              rw [if_pos (by rfl)]
              refine wp_store_row 23 (.tmp 11) (.tmp 40) rfl (wb4.heap.size) (bva o) rfl rfl 23 (bva z) T5.out HIO.out (by simp only [bva_size, OL3.out, Z3.out]) (bva_one _) ?_
              generalize hw9 : World.setRow _ _ _ = w9
              have hzz : ws.heap.size ≤ (wb4.heap.size) := hz5
              have y0 : Blk w9 w.heap.size (bva k) 23 := by rw [← hw9]; exact Ci.blk_row (D0.out.below Y5.out) (by have := D0.out.lt; omega)
              have y1 : Blk w9 w1.heap.size #[] 27 := by rw [← hw9]; exact Ci.blk_row (D1.out.below Y5.out) (by have := D1.out.lt; omega)
              have y2 : Blk w9 w2.heap.size (bva x) 23 := by rw [← hw9]; exact Ci.blk_row (D2.out.below Y5.out) (by have := D2.out.lt; omega)
              have y3 : Blk w9 (w2.heap.size + 1) (bva y) 23 := by rw [← hw9]; exact Ci.blk_row (D3.out.below Y5.out) (by have := D3.out.lt; omega)
              have y4 : Blk w9 w3.heap.size (bva x) 23 := by rw [← hw9]; exact Ci.blk_row (D4.out.below Y5.out) (by have := D4.out.lt; omega)
              have y5 : Blk w9 (w3.heap.size + 1) (bva y) 23 := by rw [← hw9]; exact Ci.blk_row (D5.out.below Y5.out) (by have := D5.out.lt; omega)
              have y6 : Blk w9 (wb4.heap.size) (bva o) 23 := by rw [← hw9]; exact setRow_heap _ _ _ _ _ _ T5.out
              have yb : Below w.heap.size w w9 := by rw [← hw9]; exact below_setRow (DB.out.trans (Y5.out.mono DB.out.size)) (Nat.le_trans DB.out.size hzz) _
              obtain ⟨zz, hzq⟩ : ∃ zz, zz = (wb4.heap.size) := ⟨_, rfl⟩
              rw [← hzq] at y6
              have ZQ0 := Lib.hid y0
              have ZQ1 := Lib.hid y1
              have ZQ2 := Lib.hid y2
              have ZQ3 := Lib.hid y3
              have ZQ4 := Lib.hid y4
              have ZQ5 := Lib.hid y5
              have ZQ6 := Lib.hid y6
              have ZB := Lib.hid yb
              clear y0 y1 y2 y3 y4 y5 y6 yb hw9 hzz T5 Y5
              refine hK _ _ ?_
              clear hK K
              refine wpAny_done (by kernel_rfl) ?_ _
              simp only [← hzq]
              clear hzq D0 D1 D2 D3 D4 D5 DM DB
              simp only [List.getElem_toArray, List.getElem_cons_succ, List.getElem_cons_zero, Act.put]
              go_wp2_with fail
              have hat : ∀ W, (Instr.arrayAt 35 (.slice (some ⟨zz, 0, none⟩) 16 32)).run Try.prog W = .ok (.pointer (some ⟨zz, 0, none⟩)) W := fun W => run_arrayAt W 35 _ _ _ _ _ Try.underlying35 (Nat.le_refl _)
              refine wp_region_held_drew (S := fun w' => Blk w' w.heap.size (bva k) 23 ∧ Blk w' w1.heap.size #[] 27 ∧ Blk w' w2.heap.size (bva x) 23 ∧ Blk w' (w2.heap.size + 1) (bva y) 23 ∧ Blk w' w3.heap.size (bva x) 23 ∧ Blk w' (w3.heap.size + 1) (bva y) 23 ∧ Blk w' zz (bva o) 23 ∧ Below w.heap.size w w') (by kernel_rfl) ⟨ZQ0.out, ZQ1.out, ZQ2.out, ZQ3.out, ZQ4.out, ZQ5.out, ZQ6.out, ZB.out.drew⟩ (fun hh => ?_)
              have HH := Lib.hid hh
              clear hh
              refine wpAnyH_take (i := 0) (v := .agg (bva x)) rfl (by kernel_rfl) (by kernel_rfl) (by kernel_rfl) (fun _ _ _ h => h) (Or.inl ⟨by rfl, fun w' hw' => ?yb0⟩) HH.out ?_
              case yb0 => exact exec_load 23 (.tmp 6) rfl rfl hw'.2.2.1 Try.underlying23 rfl HIX.out
              refine wpAnyH_take (i := 1) (v := .agg (bva x)) rfl (by kernel_rfl) (by kernel_rfl) (by kernel_rfl) (fun _ _ _ h => h) (Or.inl ⟨by rfl, fun w' hw' => ?yb1⟩) HH.out ?_
              case yb1 => exact exec_load 23 (.tmp 8) rfl rfl hw'.2.2.2.2.1 Try.underlying23 rfl HIX.out
              try simp only [List.getElem_toArray, List.getElem_cons_succ, List.getElem_cons_zero, Act.put, List.setIfInBounds_toArray, List.set_cons_zero, List.set_cons_succ]
              refine wpAnyH_take (i := 2) (v := ?vb2) rfl (by kernel_rfl) (by kernel_rfl) (by kernel_rfl) (fun _ _ _ h => h) (Or.inl ⟨by rfl, fun w' _ => ?yb2⟩) HH.out ?_
              case yb2 => (go_simp; try with_reducible rfl)
              refine wpAnyH_take (i := 3) (v := ?vb3) rfl (by kernel_rfl) (by kernel_rfl) (by kernel_rfl) (fun _ _ _ h => h) (Or.inl ⟨by rfl, fun w' _ => ?yb3⟩) HH.out ?_
              case yb3 => (go_simp; try with_reducible rfl)
              refine wpAnyH_take (i := 4) (v := .agg (bva y)) rfl (by kernel_rfl) (by kernel_rfl) (by kernel_rfl) (fun _ _ _ h => h) (Or.inl ⟨by rfl, fun w' hw' => ?yb4⟩) HH.out ?_
              case yb4 => exact exec_load 23 (.tmp 7) rfl rfl hw'.2.2.2.1 Try.underlying23 rfl HIY.out
              try simp only [List.getElem_toArray, List.getElem_cons_succ, List.getElem_cons_zero, Act.put, List.setIfInBounds_toArray, List.set_cons_zero, List.set_cons_succ]
              refine wpAnyH_take (i := 5) (v := .agg (bva y)) rfl (by kernel_rfl) (by kernel_rfl) (by kernel_rfl) (fun _ _ _ h => h) (Or.inl ⟨by rfl, fun w' hw' => ?yb5⟩) HH.out ?_
              case yb5 => exact exec_load 23 (.tmp 9) rfl rfl hw'.2.2.2.2.2.1 Try.underlying23 rfl HIY.out
              try simp only [List.getElem_toArray, List.getElem_cons_succ, List.getElem_cons_zero, Act.put, List.setIfInBounds_toArray, List.set_cons_zero, List.set_cons_succ]
              refine wpAnyH_take (i := 6) (v := ?vb6) rfl (by kernel_rfl) (by kernel_rfl) (by kernel_rfl) (fun _ _ _ h => h) (Or.inl ⟨by rfl, fun w' _ => ?yb6⟩) HH.out ?_
              case yb6 => (go_simp; try with_reducible rfl)
              refine wpAnyH_take (i := 7) (v := ?vb7) rfl (by kernel_rfl) (by kernel_rfl) (by kernel_rfl) (fun _ _ _ h => h) (Or.inl ⟨by rfl, fun w' _ => ?yb7⟩) HH.out ?_
              case yb7 => (go_simp; try with_reducible rfl)
              try simp only [List.getElem_toArray, List.getElem_cons_succ, List.getElem_cons_zero, Act.put, List.setIfInBounds_toArray, List.set_cons_zero, List.set_cons_succ]
              refine wpAnyH_take (i := 8) (v := ?vb8) rfl (by kernel_rfl) (by kernel_rfl) (by kernel_rfl) (fun _ _ _ h => h) (Or.inl ⟨by rfl, fun w' _ => ?yb8⟩) HH.out ?_
              case yb8 => (go_simp; try with_reducible rfl)
              refine wpAnyH_take (i := 9) (v := .agg #[]) rfl (by kernel_rfl) (by kernel_rfl) (by kernel_rfl) (fun _ _ _ h => h) (Or.inl ⟨by rfl, fun w' hw' => ?yb9⟩) HH.out ?_
              case yb9 => exact exec_load 27 (.tmp 5) rfl rfl hw'.2.1 Try.underlying27 rfl HIR.out
              refine wpAnyH_take (i := 10) (v := .agg (bva k)) rfl (by kernel_rfl) (by kernel_rfl) (by kernel_rfl) (fun _ _ _ h => h) (Or.inl ⟨by rfl, fun w' hw' => ?yb10⟩) HH.out ?_
              case yb10 => exact exec_load 23 (.tmp 2) rfl rfl hw'.1 Try.underlying23 rfl HI.out
              try simp only [List.getElem_toArray, List.getElem_cons_succ, List.getElem_cons_zero, Act.put, List.setIfInBounds_toArray, List.set_cons_zero, List.set_cons_succ]
              refine wpAnyH_take (i := 12) (v := .agg #[]) rfl (by kernel_rfl) (by kernel_rfl) (by kernel_rfl) (fun _ _ _ h => h) (Or.inl ⟨by rfl, fun w' hw' => ?yb12⟩) HH.out ?_
              case yb12 => exact exec_load 27 (.tmp 5) rfl rfl hw'.2.1 Try.underlying27 rfl HIR.out
              refine wpAnyH_take (i := 13) (v := .agg (bva k)) rfl (by kernel_rfl) (by kernel_rfl) (by kernel_rfl) (fun _ _ _ h => h) (Or.inl ⟨by rfl, fun w' hw' => ?yb13⟩) HH.out ?_
              case yb13 => exact exec_load 23 (.tmp 2) rfl rfl hw'.1 Try.underlying23 rfl HI.out
              try simp only [List.getElem_toArray, List.getElem_cons_succ, List.getElem_cons_zero, Act.put, List.setIfInBounds_toArray, List.set_cons_zero, List.set_cons_succ]
              refine wpAnyH_ready (rs := [11]) (by kernel_rfl) (by simp) (AllReadyH.cons rfl (fun K hK => ?_) AllReadyH.nil)
              go_simp
              refine (Ci.realpad_any k HK.out 1 _).mono ?_
              rintro e wp1 ⟨rfl, bw⟩
              rw [← HP.out]
              go_simp
              refine hK.out _ _ ⟨HH.out.1.below bw, HH.out.2.1.below bw, HH.out.2.2.1.below bw, HH.out.2.2.2.1.below bw, HH.out.2.2.2.2.1.below bw, HH.out.2.2.2.2.2.1.below bw, HH.out.2.2.2.2.2.2.1.below bw, HH.out.2.2.2.2.2.2.2.trans (bw.mono HH.out.2.2.2.2.2.2.2.size)⟩ (fun hh => ?_)
              have HH' := Lib.hid hh
              clear hh hK K HH bw
              have HH := Lib.hid HH'.out
              clear HH'
              try simp only [List.getElem_toArray, List.getElem_cons_succ, List.getElem_cons_zero, Act.put, List.setIfInBounds_toArray, List.set_cons_zero, List.set_cons_succ]
              refine wpAnyH_ready (rs := [14]) (by kernel_rfl) (by simp) (AllReadyH.cons rfl (fun K hK => ?_) AllReadyH.nil)
              go_simp
              refine (Ci.realpad_any k HK.out 1 _).mono ?_
              rintro e wp2 ⟨rfl, bw⟩
              rw [← HP.out]
              go_simp
              refine hK.out _ _ ⟨HH.out.1.below bw, HH.out.2.1.below bw, HH.out.2.2.1.below bw, HH.out.2.2.2.1.below bw, HH.out.2.2.2.2.1.below bw, HH.out.2.2.2.2.2.1.below bw, HH.out.2.2.2.2.2.2.1.below bw, HH.out.2.2.2.2.2.2.2.trans (bw.mono HH.out.2.2.2.2.2.2.2.size)⟩ (fun hh => ?_)
              have HH' := Lib.hid hh
              clear hh hK K HH bw
              have HH := Lib.hid HH'.out
              clear HH'
              try simp only [List.getElem_toArray, List.getElem_cons_succ, List.getElem_cons_zero, Act.put, List.setIfInBounds_toArray, List.set_cons_zero, List.set_cons_succ]
              refine wpAnyH_take (i := 15) (v := ?vb15) rfl (by kernel_rfl) (by kernel_rfl) (by kernel_rfl) (fun _ _ _ h => h) (Or.inl ⟨by rfl, fun w' _ => ?yb15⟩) HH.out ?_
              case yb15 => (go_simp; try with_reducible rfl)
              refine wpAnyH_take (i := 16) (v := ?vb16) rfl (by kernel_rfl) (by kernel_rfl) (by kernel_rfl) (fun _ _ _ h => h) (Or.inl ⟨by rfl, fun w' _ => ?yb16⟩) HH.out ?_
              case yb16 => (go_simp; try with_reducible rfl)
              try simp only [List.getElem_toArray, List.getElem_cons_succ, List.getElem_cons_zero, Act.put, List.setIfInBounds_toArray, List.set_cons_zero, List.set_cons_succ]
              refine wpAnyH_take (i := 17) (v := ?vb17) rfl (by kernel_rfl) (by kernel_rfl) (by kernel_rfl) (fun _ _ _ h => h) (Or.inl ⟨by rfl, fun w' _ => ?yb17⟩) HH.out ?_
              case yb17 => (go_simp; try with_reducible rfl)
              refine wpAnyH_take (i := 18) (v := .agg #[]) rfl (by kernel_rfl) (by kernel_rfl) (by kernel_rfl) (fun _ _ _ h => h) (Or.inl ⟨by rfl, fun w' hw' => ?yb18⟩) HH.out ?_
              case yb18 => exact exec_load 27 (.tmp 5) rfl rfl hw'.2.1 Try.underlying27 rfl HIR.out
              refine wpAnyH_take (i := 19) (v := .agg (bva k)) rfl (by kernel_rfl) (by kernel_rfl) (by kernel_rfl) (fun _ _ _ h => h) (Or.inl ⟨by rfl, fun w' hw' => ?yb19⟩) HH.out ?_
              case yb19 => exact exec_load 23 (.tmp 2) rfl rfl hw'.1 Try.underlying23 rfl HI.out
              try simp only [List.getElem_toArray, List.getElem_cons_succ, List.getElem_cons_zero, Act.put, List.setIfInBounds_toArray, List.set_cons_zero, List.set_cons_succ]
              refine wpAnyH_take (i := 20) (v := ?vb20) rfl (by kernel_rfl) (by kernel_rfl) (by kernel_rfl) (fun _ _ _ h => h) (Or.inl ⟨by rfl, fun w' _ => ?yb20⟩) HH.out ?_
              case yb20 => (go_simp; try with_reducible rfl)
              try simp only [List.getElem_toArray, List.getElem_cons_succ, List.getElem_cons_zero, Act.put, List.setIfInBounds_toArray, List.set_cons_zero, List.set_cons_succ]
              refine wpAnyH_take (i := 22) (v := ?vb22) rfl (by kernel_rfl) (by kernel_rfl) (by kernel_rfl) (fun _ _ _ h => h) (Or.inl ⟨by rfl, fun w' _ => ?yb22⟩) HH.out ?_
              case yb22 => (go_simp; try with_reducible rfl)
              try simp only [List.getElem_toArray, List.getElem_cons_succ, List.getElem_cons_zero, Act.put, List.setIfInBounds_toArray, List.set_cons_zero, List.set_cons_succ]
              refine wpAnyH_take (i := 23) (v := ?vb23) rfl (by kernel_rfl) (by kernel_rfl) (by kernel_rfl) (fun _ _ _ h => h) (Or.inl ⟨by rfl, fun w' _ => ?yb23⟩) HH.out ?_
              case yb23 => (go_simp; try with_reducible rfl)
              try simp only [List.getElem_toArray, List.getElem_cons_succ, List.getElem_cons_zero, Act.put, List.setIfInBounds_toArray, List.set_cons_zero, List.set_cons_succ]
              refine wpAnyH_take (i := 24) (v := .agg (bva sm)) rfl (by kernel_rfl) (by kernel_rfl) (by kernel_rfl) (fun _ _ _ h => h) (Or.inl ⟨by rfl, fun w' hw' => ?yb24⟩) HH.out ?_
              case yb24 => (rw [← HSO.out]; exact exec_load_mid 35 (.tmp 64) rfl zz 0 rfl (bv (o.take 16)) _ (front_range hw'.2.2.2.2.2.2.1 16) Try.underlying35 rfl HIS.out)
              try simp only [List.getElem_toArray, List.getElem_cons_succ, List.getElem_cons_zero, Act.put, List.setIfInBounds_toArray, List.set_cons_zero, List.set_cons_succ]
              refine wpAnyH_ready (rs := [21]) (by kernel_rfl) (by simp) (AllReadyH.cons rfl (fun K hK => ?_) AllReadyH.nil)
              go_simp
              refine (Ci.realsum_any k HK.out A n c l _ HL.out HC.out HM.out ((HR.out.below HH.out.2.2.2.2.2.2.2).more HH.out.2.2.2.2.2.2.2.size) (by omega)).mono ?_
              rintro e wp3 ⟨rfl, bw⟩
              rw [← HSM.out]
              go_simp
              refine hK.out _ _ ⟨HH.out.1.below bw, HH.out.2.1.below bw, HH.out.2.2.1.below bw, HH.out.2.2.2.1.below bw, HH.out.2.2.2.2.1.below bw, HH.out.2.2.2.2.2.1.below bw, HH.out.2.2.2.2.2.2.1.below bw, HH.out.2.2.2.2.2.2.2.trans (bw.mono HH.out.2.2.2.2.2.2.2.size)⟩ (fun hh => ?_)
              have HH' := Lib.hid hh
              clear hh hK K HH bw
              have HH := Lib.hid HH'.out
              clear HH'
              try simp only [List.getElem_toArray, List.getElem_cons_succ, List.getElem_cons_zero, Act.put, List.setIfInBounds_toArray, List.set_cons_zero, List.set_cons_succ]
              refine wpAnyH_take (i := 25) (v := ?vb25) rfl (by kernel_rfl) (by kernel_rfl) (by kernel_rfl) (fun _ _ _ h => h) (Or.inl ⟨by rfl, fun w' _ => ?yb25⟩) HH.out ?_
              case yb25 => (go_simp; try with_reducible rfl)
              try simp only [List.getElem_toArray, List.getElem_cons_succ, List.getElem_cons_zero, Act.put, List.setIfInBounds_toArray, List.set_cons_zero, List.set_cons_succ]
              refine wpAnyH_take (i := 26) (v := ?vb26) rfl (by kernel_rfl) (by kernel_rfl) (by kernel_rfl) (fun _ _ _ h => h) (Or.inl ⟨by rfl, fun w' _ => ?yb26⟩) HH.out ?_
              case yb26 => (go_simp; try with_reducible rfl)
              refine wpAnyH_take (i := 27) (v := ?vb27) rfl (by kernel_rfl) (by kernel_rfl) (by kernel_rfl) (fun _ _ _ h => h) (Or.inl ⟨by rfl, fun w' _ => ?yb27⟩) HH.out ?_
              case yb27 => (go_simp; try with_reducible rfl)
              try simp only [List.getElem_toArray, List.getElem_cons_succ, List.getElem_cons_zero, Act.put, List.setIfInBounds_toArray, List.set_cons_zero, List.set_cons_succ]
              refine wpAnyH_done (by kernel_rfl) ?_ _
              go_wp2_with fail
              go_ret
              exact ⟨rfl, HH.out.2.2.2.2.2.2.2⟩
          · skip
            go_simp
            refine hK _ _ ?_
            clear hK K
            have T6 : Hid (Blk (World.alloc wa3 (.cells (bva z) 23)) (wa3.heap.size) (bva z) 23) := heap_alloc_new _ _
            have Y6 : Hid (Below ws.heap.size ws (World.alloc wa3 (.cells (bva z) 23))) := Y3.out.alloc Y3.out.size _
            have hz6 : ws.heap.size ≤ wa3.heap.size := by have := Y3.out.size; (try simp at this); omega
            have O6 := Lib.hid (own_below O3.out (w' := (World.alloc wa3 (.cells (bva z) 23))) ((Below.refl _ _).alloc (Nat.le_refl _) _))
            have N6 : Hid (∀ j, (Value.slice Aa3 64 ca3).ownBlock = some j → j ≠ wa3.heap.size) := fun j hj => by have := (O3.out.lt j hj).2; (try simp at this); omega
            try simp only [List.getElem_toArray, List.getElem_cons_succ, List.getElem_cons_zero, Act.put, List.setIfInBounds_toArray, List.set_cons_zero, List.set_cons_succ]
            refine wpAny_ready (rs := [5]) (by kernel_rfl) (by simp) (AllReady.cons rfl (fun K hK => ?_) AllReady.nil)
            · skip
              go_simp
              refine (sum_any Aa3 64 ca3 (k ++ mi) _ (by rw [List.length_append, HK.out, M3.out]) (Nat.le_refl _) (Rd.own O6.out) (by omega)).mono ?_
              rintro e wb7 ⟨rfl, bw⟩
              rw [← HO.out]
              have Y7 := Lib.hid (Y6.out.trans (bw.mono Y6.out.size))
              have T7 := Lib.hid (T6.out.below bw)
              clear bw O6 Y6 N6 T6
              go_simp
              refine hK _ _ ?_
              clear hK K
              try simp only [List.getElem_toArray, List.getElem_cons_succ, List.getElem_cons_zero, Act.put, List.setIfInBounds_toArray, List.set_cons_zero, List.set_cons_succ]
              refine wpAny_ready (rs := [7]) (by kernel_rfl) (by simp) (AllReady.cons rfl (fun K hK => ?_) AllReady.nil)
              rw [if_pos (by rfl)]
              refine wp_store_row 23 (.tmp 11) (.tmp 40) rfl (wa3.heap.size) (bva o) rfl rfl 23 (bva z) T7.out HIO.out (by simp only [bva_size, OL3.out, Z3.out]) (bva_one _) ?_
              generalize hw9 : World.setRow _ _ _ = w9
              have hzz : ws.heap.size ≤ (wa3.heap.size) := hz6
              have y0 : Blk w9 w.heap.size (bva k) 23 := by rw [← hw9]; exact Ci.blk_row (D0.out.below Y7.out) (by have := D0.out.lt; omega)
              have y1 : Blk w9 w1.heap.size #[] 27 := by rw [← hw9]; exact Ci.blk_row (D1.out.below Y7.out) (by have := D1.out.lt; omega)
              have y2 : Blk w9 w2.heap.size (bva x) 23 := by rw [← hw9]; exact Ci.blk_row (D2.out.below Y7.out) (by have := D2.out.lt; omega)
              have y3 : Blk w9 (w2.heap.size + 1) (bva y) 23 := by rw [← hw9]; exact Ci.blk_row (D3.out.below Y7.out) (by have := D3.out.lt; omega)
              have y4 : Blk w9 w3.heap.size (bva x) 23 := by rw [← hw9]; exact Ci.blk_row (D4.out.below Y7.out) (by have := D4.out.lt; omega)
              have y5 : Blk w9 (w3.heap.size + 1) (bva y) 23 := by rw [← hw9]; exact Ci.blk_row (D5.out.below Y7.out) (by have := D5.out.lt; omega)
              have y6 : Blk w9 (wa3.heap.size) (bva o) 23 := by rw [← hw9]; exact setRow_heap _ _ _ _ _ _ T7.out
              have yb : Below w.heap.size w w9 := by rw [← hw9]; exact below_setRow (DB.out.trans (Y7.out.mono DB.out.size)) (Nat.le_trans DB.out.size hzz) _
              obtain ⟨zz, hzq⟩ : ∃ zz, zz = (wa3.heap.size) := ⟨_, rfl⟩
              rw [← hzq] at y6
              have ZQ0 := Lib.hid y0
              have ZQ1 := Lib.hid y1
              have ZQ2 := Lib.hid y2
              have ZQ3 := Lib.hid y3
              have ZQ4 := Lib.hid y4
              have ZQ5 := Lib.hid y5
              have ZQ6 := Lib.hid y6
              have ZB := Lib.hid yb
              clear y0 y1 y2 y3 y4 y5 y6 yb hw9 hzz T7 Y7
              refine hK _ _ ?_
              clear hK K
              refine wpAny_done (by kernel_rfl) ?_ _
              simp only [← hzq]
              clear hzq D0 D1 D2 D3 D4 D5 DM DB
              simp only [List.getElem_toArray, List.getElem_cons_succ, List.getElem_cons_zero, Act.put]
              go_wp2_with fail
              have hat : ∀ W, (Instr.arrayAt 35 (.slice (some ⟨zz, 0, none⟩) 16 32)).run Try.prog W = .ok (.pointer (some ⟨zz, 0, none⟩)) W := fun W => run_arrayAt W 35 _ _ _ _ _ Try.underlying35 (Nat.le_refl _)
              refine wp_region_held_drew (S := fun w' => Blk w' w.heap.size (bva k) 23 ∧ Blk w' w1.heap.size #[] 27 ∧ Blk w' w2.heap.size (bva x) 23 ∧ Blk w' (w2.heap.size + 1) (bva y) 23 ∧ Blk w' w3.heap.size (bva x) 23 ∧ Blk w' (w3.heap.size + 1) (bva y) 23 ∧ Blk w' zz (bva o) 23 ∧ Below w.heap.size w w') (by kernel_rfl) ⟨ZQ0.out, ZQ1.out, ZQ2.out, ZQ3.out, ZQ4.out, ZQ5.out, ZQ6.out, ZB.out.drew⟩ (fun hh => ?_)
              have HH := Lib.hid hh
              clear hh
              refine wpAnyH_take (i := 0) (v := .agg (bva x)) rfl (by kernel_rfl) (by kernel_rfl) (by kernel_rfl) (fun _ _ _ h => h) (Or.inl ⟨by rfl, fun w' hw' => ?yc0⟩) HH.out ?_
              case yc0 => exact exec_load 23 (.tmp 6) rfl rfl hw'.2.2.1 Try.underlying23 rfl HIX.out
              refine wpAnyH_take (i := 1) (v := .agg (bva x)) rfl (by kernel_rfl) (by kernel_rfl) (by kernel_rfl) (fun _ _ _ h => h) (Or.inl ⟨by rfl, fun w' hw' => ?yc1⟩) HH.out ?_
              case yc1 => exact exec_load 23 (.tmp 8) rfl rfl hw'.2.2.2.2.1 Try.underlying23 rfl HIX.out
              try simp only [List.getElem_toArray, List.getElem_cons_succ, List.getElem_cons_zero, Act.put, List.setIfInBounds_toArray, List.set_cons_zero, List.set_cons_succ]
              refine wpAnyH_take (i := 2) (v := ?vc2) rfl (by kernel_rfl) (by kernel_rfl) (by kernel_rfl) (fun _ _ _ h => h) (Or.inl ⟨by rfl, fun w' _ => ?yc2⟩) HH.out ?_
              case yc2 => (go_simp; try with_reducible rfl)
              refine wpAnyH_take (i := 3) (v := ?vc3) rfl (by kernel_rfl) (by kernel_rfl) (by kernel_rfl) (fun _ _ _ h => h) (Or.inl ⟨by rfl, fun w' _ => ?yc3⟩) HH.out ?_
              case yc3 => (go_simp; try with_reducible rfl)
              refine wpAnyH_take (i := 4) (v := .agg (bva y)) rfl (by kernel_rfl) (by kernel_rfl) (by kernel_rfl) (fun _ _ _ h => h) (Or.inl ⟨by rfl, fun w' hw' => ?yc4⟩) HH.out ?_
              case yc4 => exact exec_load 23 (.tmp 7) rfl rfl hw'.2.2.2.1 Try.underlying23 rfl HIY.out
              try simp only [List.getElem_toArray, List.getElem_cons_succ, List.getElem_cons_zero, Act.put, List.setIfInBounds_toArray, List.set_cons_zero, List.set_cons_succ]
              refine wpAnyH_take (i := 5) (v := .agg (bva y)) rfl (by kernel_rfl) (by kernel_rfl) (by kernel_rfl) (fun _ _ _ h => h) (Or.inl ⟨by rfl, fun w' hw' => ?yc5⟩) HH.out ?_
              case yc5 => exact exec_load 23 (.tmp 9) rfl rfl hw'.2.2.2.2.2.1 Try.underlying23 rfl HIY.out
              try simp only [List.getElem_toArray, List.getElem_cons_succ, List.getElem_cons_zero, Act.put, List.setIfInBounds_toArray, List.set_cons_zero, List.set_cons_succ]
              refine wpAnyH_take (i := 6) (v := ?vc6) rfl (by kernel_rfl) (by kernel_rfl) (by kernel_rfl) (fun _ _ _ h => h) (Or.inl ⟨by rfl, fun w' _ => ?yc6⟩) HH.out ?_
              case yc6 => (go_simp; try with_reducible rfl)
              refine wpAnyH_take (i := 7) (v := ?vc7) rfl (by kernel_rfl) (by kernel_rfl) (by kernel_rfl) (fun _ _ _ h => h) (Or.inl ⟨by rfl, fun w' _ => ?yc7⟩) HH.out ?_
              case yc7 => (go_simp; try with_reducible rfl)
              try simp only [List.getElem_toArray, List.getElem_cons_succ, List.getElem_cons_zero, Act.put, List.setIfInBounds_toArray, List.set_cons_zero, List.set_cons_succ]
              refine wpAnyH_take (i := 8) (v := ?vc8) rfl (by kernel_rfl) (by kernel_rfl) (by kernel_rfl) (fun _ _ _ h => h) (Or.inl ⟨by rfl, fun w' _ => ?yc8⟩) HH.out ?_
              case yc8 => (go_simp; try with_reducible rfl)
              refine wpAnyH_take (i := 9) (v := .agg #[]) rfl (by kernel_rfl) (by kernel_rfl) (by kernel_rfl) (fun _ _ _ h => h) (Or.inl ⟨by rfl, fun w' hw' => ?yc9⟩) HH.out ?_
              case yc9 => exact exec_load 27 (.tmp 5) rfl rfl hw'.2.1 Try.underlying27 rfl HIR.out
              refine wpAnyH_take (i := 10) (v := .agg (bva k)) rfl (by kernel_rfl) (by kernel_rfl) (by kernel_rfl) (fun _ _ _ h => h) (Or.inl ⟨by rfl, fun w' hw' => ?yc10⟩) HH.out ?_
              case yc10 => exact exec_load 23 (.tmp 2) rfl rfl hw'.1 Try.underlying23 rfl HI.out
              try simp only [List.getElem_toArray, List.getElem_cons_succ, List.getElem_cons_zero, Act.put, List.setIfInBounds_toArray, List.set_cons_zero, List.set_cons_succ]
              refine wpAnyH_take (i := 12) (v := .agg #[]) rfl (by kernel_rfl) (by kernel_rfl) (by kernel_rfl) (fun _ _ _ h => h) (Or.inl ⟨by rfl, fun w' hw' => ?yc12⟩) HH.out ?_
              case yc12 => exact exec_load 27 (.tmp 5) rfl rfl hw'.2.1 Try.underlying27 rfl HIR.out
              refine wpAnyH_take (i := 13) (v := .agg (bva k)) rfl (by kernel_rfl) (by kernel_rfl) (by kernel_rfl) (fun _ _ _ h => h) (Or.inl ⟨by rfl, fun w' hw' => ?yc13⟩) HH.out ?_
              case yc13 => exact exec_load 23 (.tmp 2) rfl rfl hw'.1 Try.underlying23 rfl HI.out
              try simp only [List.getElem_toArray, List.getElem_cons_succ, List.getElem_cons_zero, Act.put, List.setIfInBounds_toArray, List.set_cons_zero, List.set_cons_succ]
              refine wpAnyH_ready (rs := [11]) (by kernel_rfl) (by simp) (AllReadyH.cons rfl (fun K hK => ?_) AllReadyH.nil)
              go_simp
              refine (Ci.realpad_any k HK.out 1 _).mono ?_
              rintro e wp1 ⟨rfl, bw⟩
              rw [← HP.out]
              go_simp
              refine hK.out _ _ ⟨HH.out.1.below bw, HH.out.2.1.below bw, HH.out.2.2.1.below bw, HH.out.2.2.2.1.below bw, HH.out.2.2.2.2.1.below bw, HH.out.2.2.2.2.2.1.below bw, HH.out.2.2.2.2.2.2.1.below bw, HH.out.2.2.2.2.2.2.2.trans (bw.mono HH.out.2.2.2.2.2.2.2.size)⟩ (fun hh => ?_)
              have HH' := Lib.hid hh
              clear hh hK K HH bw
              have HH := Lib.hid HH'.out
              clear HH'
              try simp only [List.getElem_toArray, List.getElem_cons_succ, List.getElem_cons_zero, Act.put, List.setIfInBounds_toArray, List.set_cons_zero, List.set_cons_succ]
              refine wpAnyH_ready (rs := [14]) (by kernel_rfl) (by simp) (AllReadyH.cons rfl (fun K hK => ?_) AllReadyH.nil)
              go_simp
              refine (Ci.realpad_any k HK.out 1 _).mono ?_
              rintro e wp2 ⟨rfl, bw⟩
              rw [← HP.out]
              go_simp
              refine hK.out _ _ ⟨HH.out.1.below bw, HH.out.2.1.below bw, HH.out.2.2.1.below bw, HH.out.2.2.2.1.below bw, HH.out.2.2.2.2.1.below bw, HH.out.2.2.2.2.2.1.below bw, HH.out.2.2.2.2.2.2.1.below bw, HH.out.2.2.2.2.2.2.2.trans (bw.mono HH.out.2.2.2.2.2.2.2.size)⟩ (fun hh => ?_)
              have HH' := Lib.hid hh
              clear hh hK K HH bw
              have HH := Lib.hid HH'.out
              clear HH'
              try simp only [List.getElem_toArray, List.getElem_cons_succ, List.getElem_cons_zero, Act.put, List.setIfInBounds_toArray, List.set_cons_zero, List.set_cons_succ]
              refine wpAnyH_take (i := 15) (v := ?vc15) rfl (by kernel_rfl) (by kernel_rfl) (by kernel_rfl) (fun _ _ _ h => h) (Or.inl ⟨by rfl, fun w' _ => ?yc15⟩) HH.out ?_
              case yc15 => (go_simp; try with_reducible rfl)
              refine wpAnyH_take (i := 16) (v := ?vc16) rfl (by kernel_rfl) (by kernel_rfl) (by kernel_rfl) (fun _ _ _ h => h) (Or.inl ⟨by rfl, fun w' _ => ?yc16⟩) HH.out ?_
              case yc16 => (go_simp; try with_reducible rfl)
              try simp only [List.getElem_toArray, List.getElem_cons_succ, List.getElem_cons_zero, Act.put, List.setIfInBounds_toArray, List.set_cons_zero, List.set_cons_succ]
              refine wpAnyH_take (i := 17) (v := ?vc17) rfl (by kernel_rfl) (by kernel_rfl) (by kernel_rfl) (fun _ _ _ h => h) (Or.inl ⟨by rfl, fun w' _ => ?yc17⟩) HH.out ?_
              case yc17 => (go_simp; try with_reducible rfl)
              refine wpAnyH_take (i := 18) (v := .agg #[]) rfl (by kernel_rfl) (by kernel_rfl) (by kernel_rfl) (fun _ _ _ h => h) (Or.inl ⟨by rfl, fun w' hw' => ?yc18⟩) HH.out ?_
              case yc18 => exact exec_load 27 (.tmp 5) rfl rfl hw'.2.1 Try.underlying27 rfl HIR.out
              refine wpAnyH_take (i := 19) (v := .agg (bva k)) rfl (by kernel_rfl) (by kernel_rfl) (by kernel_rfl) (fun _ _ _ h => h) (Or.inl ⟨by rfl, fun w' hw' => ?yc19⟩) HH.out ?_
              case yc19 => exact exec_load 23 (.tmp 2) rfl rfl hw'.1 Try.underlying23 rfl HI.out
              try simp only [List.getElem_toArray, List.getElem_cons_succ, List.getElem_cons_zero, Act.put, List.setIfInBounds_toArray, List.set_cons_zero, List.set_cons_succ]
              refine wpAnyH_take (i := 20) (v := ?vc20) rfl (by kernel_rfl) (by kernel_rfl) (by kernel_rfl) (fun _ _ _ h => h) (Or.inl ⟨by rfl, fun w' _ => ?yc20⟩) HH.out ?_
              case yc20 => (go_simp; try with_reducible rfl)
              try simp only [List.getElem_toArray, List.getElem_cons_succ, List.getElem_cons_zero, Act.put, List.setIfInBounds_toArray, List.set_cons_zero, List.set_cons_succ]
              refine wpAnyH_take (i := 22) (v := ?vc22) rfl (by kernel_rfl) (by kernel_rfl) (by kernel_rfl) (fun _ _ _ h => h) (Or.inl ⟨by rfl, fun w' _ => ?yc22⟩) HH.out ?_
              case yc22 => (go_simp; try with_reducible rfl)
              try simp only [List.getElem_toArray, List.getElem_cons_succ, List.getElem_cons_zero, Act.put, List.setIfInBounds_toArray, List.set_cons_zero, List.set_cons_succ]
              refine wpAnyH_take (i := 23) (v := ?vc23) rfl (by kernel_rfl) (by kernel_rfl) (by kernel_rfl) (fun _ _ _ h => h) (Or.inl ⟨by rfl, fun w' _ => ?yc23⟩) HH.out ?_
              case yc23 => (go_simp; try with_reducible rfl)
              try simp only [List.getElem_toArray, List.getElem_cons_succ, List.getElem_cons_zero, Act.put, List.setIfInBounds_toArray, List.set_cons_zero, List.set_cons_succ]
              refine wpAnyH_take (i := 24) (v := .agg (bva sm)) rfl (by kernel_rfl) (by kernel_rfl) (by kernel_rfl) (fun _ _ _ h => h) (Or.inl ⟨by rfl, fun w' hw' => ?yc24⟩) HH.out ?_
              case yc24 => (rw [← HSO.out]; exact exec_load_mid 35 (.tmp 64) rfl zz 0 rfl (bv (o.take 16)) _ (front_range hw'.2.2.2.2.2.2.1 16) Try.underlying35 rfl HIS.out)
              try simp only [List.getElem_toArray, List.getElem_cons_succ, List.getElem_cons_zero, Act.put, List.setIfInBounds_toArray, List.set_cons_zero, List.set_cons_succ]
              refine wpAnyH_ready (rs := [21]) (by kernel_rfl) (by simp) (AllReadyH.cons rfl (fun K hK => ?_) AllReadyH.nil)
              go_simp
              refine (Ci.realsum_any k HK.out A n c l _ HL.out HC.out HM.out ((HR.out.below HH.out.2.2.2.2.2.2.2).more HH.out.2.2.2.2.2.2.2.size) (by omega)).mono ?_
              rintro e wp3 ⟨rfl, bw⟩
              rw [← HSM.out]
              go_simp
              refine hK.out _ _ ⟨HH.out.1.below bw, HH.out.2.1.below bw, HH.out.2.2.1.below bw, HH.out.2.2.2.1.below bw, HH.out.2.2.2.2.1.below bw, HH.out.2.2.2.2.2.1.below bw, HH.out.2.2.2.2.2.2.1.below bw, HH.out.2.2.2.2.2.2.2.trans (bw.mono HH.out.2.2.2.2.2.2.2.size)⟩ (fun hh => ?_)
              have HH' := Lib.hid hh
              clear hh hK K HH bw
              have HH := Lib.hid HH'.out
              clear HH'
              try simp only [List.getElem_toArray, List.getElem_cons_succ, List.getElem_cons_zero, Act.put, List.setIfInBounds_toArray, List.set_cons_zero, List.set_cons_succ]
              refine wpAnyH_take (i := 25) (v := ?vc25) rfl (by kernel_rfl) (by kernel_rfl) (by kernel_rfl) (fun _ _ _ h => h) (Or.inl ⟨by rfl, fun w' _ => ?yc25⟩) HH.out ?_
              case yc25 => (go_simp; try with_reducible rfl)
              try simp only [List.getElem_toArray, List.getElem_cons_succ, List.getElem_cons_zero, Act.put, List.setIfInBounds_toArray, List.set_cons_zero, List.set_cons_succ]
              refine wpAnyH_take (i := 26) (v := ?vc26) rfl (by kernel_rfl) (by kernel_rfl) (by kernel_rfl) (fun _ _ _ h => h) (Or.inl ⟨by rfl, fun w' _ => ?yc26⟩) HH.out ?_
              case yc26 => (go_simp; try with_reducible rfl)
              refine wpAnyH_take (i := 27) (v := ?vc27) rfl (by kernel_rfl) (by kernel_rfl) (by kernel_rfl) (fun _ _ _ h => h) (Or.inl ⟨by rfl, fun w' _ => ?yc27⟩) HH.out ?_
              case yc27 => (go_simp; try with_reducible rfl)
              try simp only [List.getElem_toArray, List.getElem_cons_succ, List.getElem_cons_zero, Act.put, List.setIfInBounds_toArray, List.set_cons_zero, List.set_cons_succ]
              refine wpAnyH_done (by kernel_rfl) ?_ _
              go_wp2_with fail
              go_ret
              exact ⟨rfl, HH.out.2.2.2.2.2.2.2⟩
        · skip
          go_simp
          refine hK _ _ ?_
          clear hK K
          have T8 : Hid (Blk (World.alloc wa2 (.cells (bva z) 23)) (wa2.heap.size) (bva z) 23) := heap_alloc_new _ _
          have Y8 : Hid (Below ws.heap.size ws (World.alloc wa2 (.cells (bva z) 23))) := Y2.out.alloc Y2.out.size _
          have hz8 : ws.heap.size ≤ wa2.heap.size := by have := Y2.out.size; (try simp at this); omega
          have O8 := Lib.hid (own_below O2.out (w' := (World.alloc wa2 (.cells (bva z) 23))) ((Below.refl _ _).alloc (Nat.le_refl _) _))
          have N8 : Hid (∀ j, (Value.slice Aa2 32 ca2).ownBlock = some j → j ≠ wa2.heap.size) := fun j hj => by have := (O2.out.lt j hj).2; (try simp at this); omega
          try simp only [List.getElem_toArray, List.getElem_cons_succ, List.getElem_cons_zero, Act.put, List.setIfInBounds_toArray, List.set_cons_zero, List.set_cons_succ]
          refine wpAny_ready (rs := [4]) (by kernel_rfl) (by simp) (AllReady.cons rfl (fun K hK => ?_) AllReady.nil)
          · skip
            refine step_app _ (by rfl) (.tmp 37) (.tmp 38) _ rfl Wi.bytesElt (base := ws.heap.size) (v := .slice Aa2 32 ca2) rfl O8.out (m := 32) rfl (Ci.rd_bva (DM.out.below (Y8.out))) ((bv_length mi).trans M3.out) (bv_one _) ?_ ?_ ?_
            · omega
            · exact Y8.out.size
            intro Aa9 ca9 wa9 ho hg hor
            have Y9 := Lib.hid (app_below Y8.out O8.out hg (Nat.le_refl _) Y8.out.size)
            have O9 := Lib.hid (own_eq ho (n' := 64) (by omega) (xs' := bv (k ++ mi)) (by rw [bv_append]))
            have N9 : Hid (∀ j, (Value.slice Aa9 64 ca9).ownBlock = some j → j ≠ (wa2.heap.size)) := fun j hj => by
              have htl := T8.out.lt
              rcases hor with h | h
              · exact N8.out j (h.symm.trans hj)
              · have hj' := h.symm.trans hj; injection hj' with hj'; (try simp at htl hj'); omega
            have T9 : Hid (Blk wa9 (wa2.heap.size) (bva z) 23) := by show Blk _ _ _ _; unfold Blk; rw [hg.block _ T8.out.lt (fun e => N8.out _ e.symm rfl)]; exact T8.out
            clear ho hg hor O8 Y8 N8 T8
            refine hK _ _ ?_
            clear hK K
            try simp only [List.getElem_toArray, List.getElem_cons_succ, List.getElem_cons_zero, Act.put, List.setIfInBounds_toArray, List.set_cons_zero, List.set_cons_succ]
            refine wpAny_ready (rs := [5]) (by kernel_rfl) (by simp) (AllReady.cons rfl (fun K hK => ?_) AllReady.nil)
            · skip
              go_simp
              refine (sum_any Aa9 64 ca9 (k ++ mi) _ (by rw [List.length_append, HK.out, M3.out]) (Nat.le_refl _) (Rd.own O9.out) (by omega)).mono ?_
              rintro e wb10 ⟨rfl, bw⟩
              rw [← HO.out]
              have Y10 := Lib.hid (Y9.out.trans (bw.mono Y9.out.size))
              have T10 := Lib.hid (T9.out.below bw)
              clear bw O9 Y9 N9 T9
              go_simp
              refine hK _ _ ?_
              clear hK K
              try simp only [List.getElem_toArray, List.getElem_cons_succ, List.getElem_cons_zero, Act.put, List.setIfInBounds_toArray, List.set_cons_zero, List.set_cons_succ]
              refine wpAny_ready (rs := [7]) (by kernel_rfl) (by simp) (AllReady.cons rfl (fun K hK => ?_) AllReady.nil)
              rw [if_pos (by rfl)]
              refine wp_store_row 23 (.tmp 11) (.tmp 40) rfl (wa2.heap.size) (bva o) rfl rfl 23 (bva z) T10.out HIO.out (by simp only [bva_size, OL3.out, Z3.out]) (bva_one _) ?_
              generalize hw9 : World.setRow _ _ _ = w9
              have hzz : ws.heap.size ≤ (wa2.heap.size) := hz8
              have y0 : Blk w9 w.heap.size (bva k) 23 := by rw [← hw9]; exact Ci.blk_row (D0.out.below Y10.out) (by have := D0.out.lt; omega)
              have y1 : Blk w9 w1.heap.size #[] 27 := by rw [← hw9]; exact Ci.blk_row (D1.out.below Y10.out) (by have := D1.out.lt; omega)
              have y2 : Blk w9 w2.heap.size (bva x) 23 := by rw [← hw9]; exact Ci.blk_row (D2.out.below Y10.out) (by have := D2.out.lt; omega)
              have y3 : Blk w9 (w2.heap.size + 1) (bva y) 23 := by rw [← hw9]; exact Ci.blk_row (D3.out.below Y10.out) (by have := D3.out.lt; omega)
              have y4 : Blk w9 w3.heap.size (bva x) 23 := by rw [← hw9]; exact Ci.blk_row (D4.out.below Y10.out) (by have := D4.out.lt; omega)
              have y5 : Blk w9 (w3.heap.size + 1) (bva y) 23 := by rw [← hw9]; exact Ci.blk_row (D5.out.below Y10.out) (by have := D5.out.lt; omega)
              have y6 : Blk w9 (wa2.heap.size) (bva o) 23 := by rw [← hw9]; exact setRow_heap _ _ _ _ _ _ T10.out
              have yb : Below w.heap.size w w9 := by rw [← hw9]; exact below_setRow (DB.out.trans (Y10.out.mono DB.out.size)) (Nat.le_trans DB.out.size hzz) _
              obtain ⟨zz, hzq⟩ : ∃ zz, zz = (wa2.heap.size) := ⟨_, rfl⟩
              rw [← hzq] at y6
              have ZQ0 := Lib.hid y0
              have ZQ1 := Lib.hid y1
              have ZQ2 := Lib.hid y2
              have ZQ3 := Lib.hid y3
              have ZQ4 := Lib.hid y4
              have ZQ5 := Lib.hid y5
              have ZQ6 := Lib.hid y6
              have ZB := Lib.hid yb
              clear y0 y1 y2 y3 y4 y5 y6 yb hw9 hzz T10 Y10
              refine hK _ _ ?_
              clear hK K
              refine wpAny_done (by kernel_rfl) ?_ _
              simp only [← hzq]
              clear hzq D0 D1 D2 D3 D4 D5 DM DB
              simp only [List.getElem_toArray, List.getElem_cons_succ, List.getElem_cons_zero, Act.put]
              go_wp2_with fail
              have hat : ∀ W, (Instr.arrayAt 35 (.slice (some ⟨zz, 0, none⟩) 16 32)).run Try.prog W = .ok (.pointer (some ⟨zz, 0, none⟩)) W := fun W => run_arrayAt W 35 _ _ _ _ _ Try.underlying35 (Nat.le_refl _)
              refine wp_region_held_drew (S := fun w' => Blk w' w.heap.size (bva k) 23 ∧ Blk w' w1.heap.size #[] 27 ∧ Blk w' w2.heap.size (bva x) 23 ∧ Blk w' (w2.heap.size + 1) (bva y) 23 ∧ Blk w' w3.heap.size (bva x) 23 ∧ Blk w' (w3.heap.size + 1) (bva y) 23 ∧ Blk w' zz (bva o) 23 ∧ Below w.heap.size w w') (by kernel_rfl) ⟨ZQ0.out, ZQ1.out, ZQ2.out, ZQ3.out, ZQ4.out, ZQ5.out, ZQ6.out, ZB.out.drew⟩ (fun hh => ?_)
              have HH := Lib.hid hh
              clear hh
              refine wpAnyH_take (i := 0) (v := .agg (bva x)) rfl (by kernel_rfl) (by kernel_rfl) (by kernel_rfl) (fun _ _ _ h => h) (Or.inl ⟨by rfl, fun w' hw' => ?yd0⟩) HH.out ?_
              case yd0 => exact exec_load 23 (.tmp 6) rfl rfl hw'.2.2.1 Try.underlying23 rfl HIX.out
              refine wpAnyH_take (i := 1) (v := .agg (bva x)) rfl (by kernel_rfl) (by kernel_rfl) (by kernel_rfl) (fun _ _ _ h => h) (Or.inl ⟨by rfl, fun w' hw' => ?yd1⟩) HH.out ?_
              case yd1 => exact exec_load 23 (.tmp 8) rfl rfl hw'.2.2.2.2.1 Try.underlying23 rfl HIX.out
              try simp only [List.getElem_toArray, List.getElem_cons_succ, List.getElem_cons_zero, Act.put, List.setIfInBounds_toArray, List.set_cons_zero, List.set_cons_succ]
              refine wpAnyH_take (i := 2) (v := ?vd2) rfl (by kernel_rfl) (by kernel_rfl) (by kernel_rfl) (fun _ _ _ h => h) (Or.inl ⟨by rfl, fun w' _ => ?yd2⟩) HH.out ?_
              case yd2 => (go_simp; try with_reducible rfl)
              refine wpAnyH_take (i := 3) (v := ?vd3) rfl (by kernel_rfl) (by kernel_rfl) (by kernel_rfl) (fun _ _ _ h => h) (Or.inl ⟨by rfl, fun w' _ => ?yd3⟩) HH.out ?_
              case yd3 => (go_simp; try with_reducible rfl)
              refine wpAnyH_take (i := 4) (v := .agg (bva y)) rfl (by kernel_rfl) (by kernel_rfl) (by kernel_rfl) (fun _ _ _ h => h) (Or.inl ⟨by rfl, fun w' hw' => ?yd4⟩) HH.out ?_
              case yd4 => exact exec_load 23 (.tmp 7) rfl rfl hw'.2.2.2.1 Try.underlying23 rfl HIY.out
              try simp only [List.getElem_toArray, List.getElem_cons_succ, List.getElem_cons_zero, Act.put, List.setIfInBounds_toArray, List.set_cons_zero, List.set_cons_succ]
              refine wpAnyH_take (i := 5) (v := .agg (bva y)) rfl (by kernel_rfl) (by kernel_rfl) (by kernel_rfl) (fun _ _ _ h => h) (Or.inl ⟨by rfl, fun w' hw' => ?yd5⟩) HH.out ?_
              case yd5 => exact exec_load 23 (.tmp 9) rfl rfl hw'.2.2.2.2.2.1 Try.underlying23 rfl HIY.out
              try simp only [List.getElem_toArray, List.getElem_cons_succ, List.getElem_cons_zero, Act.put, List.setIfInBounds_toArray, List.set_cons_zero, List.set_cons_succ]
              refine wpAnyH_take (i := 6) (v := ?vd6) rfl (by kernel_rfl) (by kernel_rfl) (by kernel_rfl) (fun _ _ _ h => h) (Or.inl ⟨by rfl, fun w' _ => ?yd6⟩) HH.out ?_
              case yd6 => (go_simp; try with_reducible rfl)
              refine wpAnyH_take (i := 7) (v := ?vd7) rfl (by kernel_rfl) (by kernel_rfl) (by kernel_rfl) (fun _ _ _ h => h) (Or.inl ⟨by rfl, fun w' _ => ?yd7⟩) HH.out ?_
              case yd7 => (go_simp; try with_reducible rfl)
              try simp only [List.getElem_toArray, List.getElem_cons_succ, List.getElem_cons_zero, Act.put, List.setIfInBounds_toArray, List.set_cons_zero, List.set_cons_succ]
              refine wpAnyH_take (i := 8) (v := ?vd8) rfl (by kernel_rfl) (by kernel_rfl) (by kernel_rfl) (fun _ _ _ h => h) (Or.inl ⟨by rfl, fun w' _ => ?yd8⟩) HH.out ?_
              case yd8 => (go_simp; try with_reducible rfl)
              refine wpAnyH_take (i := 9) (v := .agg #[]) rfl (by kernel_rfl) (by kernel_rfl) (by kernel_rfl) (fun _ _ _ h => h) (Or.inl ⟨by rfl, fun w' hw' => ?yd9⟩) HH.out ?_
              case yd9 => exact exec_load 27 (.tmp 5) rfl rfl hw'.2.1 Try.underlying27 rfl HIR.out
              refine wpAnyH_take (i := 10) (v := .agg (bva k)) rfl (by kernel_rfl) (by kernel_rfl) (by kernel_rfl) (fun _ _ _ h => h) (Or.inl ⟨by rfl, fun w' hw' => ?yd10⟩) HH.out ?_
              case yd10 => exact exec_load 23 (.tmp 2) rfl rfl hw'.1 Try.underlying23 rfl HI.out
              try simp only [List.getElem_toArray, List.getElem_cons_succ, List.getElem_cons_zero, Act.put, List.setIfInBounds_toArray, List.set_cons_zero, List.set_cons_succ]
              refine wpAnyH_take (i := 12) (v := .agg #[]) rfl (by kernel_rfl) (by kernel_rfl) (by kernel_rfl) (fun _ _ _ h => h) (Or.inl ⟨by rfl, fun w' hw' => ?yd12⟩) HH.out ?_
              case yd12 => exact exec_load 27 (.tmp 5) rfl rfl hw'.2.1 Try.underlying27 rfl HIR.out
              refine wpAnyH_take (i := 13) (v := .agg (bva k)) rfl (by kernel_rfl) (by kernel_rfl) (by kernel_rfl) (fun _ _ _ h => h) (Or.inl ⟨by rfl, fun w' hw' => ?yd13⟩) HH.out ?_
              case yd13 => exact exec_load 23 (.tmp 2) rfl rfl hw'.1 Try.underlying23 rfl HI.out
              try simp only [List.getElem_toArray, List.getElem_cons_succ, List.getElem_cons_zero, Act.put, List.setIfInBounds_toArray, List.set_cons_zero, List.set_cons_succ]
              refine wpAnyH_ready (rs := [11]) (by kernel_rfl) (by simp) (AllReadyH.cons rfl (fun K hK => ?_) AllReadyH.nil)
              go_simp
              refine (Ci.realpad_any k HK.out 1 _).mono ?_
              rintro e wp1 ⟨rfl, bw⟩
              rw [← HP.out]
              go_simp
              refine hK.out _ _ ⟨HH.out.1.below bw, HH.out.2.1.below bw, HH.out.2.2.1.below bw, HH.out.2.2.2.1.below bw, HH.out.2.2.2.2.1.below bw, HH.out.2.2.2.2.2.1.below bw, HH.out.2.2.2.2.2.2.1.below bw, HH.out.2.2.2.2.2.2.2.trans (bw.mono HH.out.2.2.2.2.2.2.2.size)⟩ (fun hh => ?_)
              have HH' := Lib.hid hh
              clear hh hK K HH bw
              have HH := Lib.hid HH'.out
              clear HH'
              try simp only [List.getElem_toArray, List.getElem_cons_succ, List.getElem_cons_zero, Act.put, List.setIfInBounds_toArray, List.set_cons_zero, List.set_cons_succ]
              refine wpAnyH_ready (rs := [14]) (by kernel_rfl) (by simp) (AllReadyH.cons rfl (fun K hK => ?_) AllReadyH.nil)
              go_simp
              refine (Ci.realpad_any k HK.out 1 _).mono ?_
              rintro e wp2 ⟨rfl, bw⟩
              rw [← HP.out]
              go_simp
              refine hK.out _ _ ⟨HH.out.1.below bw, HH.out.2.1.below bw, HH.out.2.2.1.below bw, HH.out.2.2.2.1.below bw, HH.out.2.2.2.2.1.below bw, HH.out.2.2.2.2.2.1.below bw, HH.out.2.2.2.2.2.2.1.below bw, HH.out.2.2.2.2.2.2.2.trans (bw.mono HH.out.2.2.2.2.2.2.2.size)⟩ (fun hh => ?_)
              have HH' := Lib.hid hh
              clear hh hK K HH bw
              have HH := Lib.hid HH'.out
              clear HH'
              try simp only [List.getElem_toArray, List.getElem_cons_succ, List.getElem_cons_zero, Act.put, List.setIfInBounds_toArray, List.set_cons_zero, List.set_cons_succ]
              refine wpAnyH_take (i := 15) (v := ?vd15) rfl (by kernel_rfl) (by kernel_rfl) (by kernel_rfl) (fun _ _ _ h => h) (Or.inl ⟨by rfl, fun w' _ => ?yd15⟩) HH.out ?_
              case yd15 => (go_simp; try with_reducible rfl)
              refine wpAnyH_take (i := 16) (v := ?vd16) rfl (by kernel_rfl) (by kernel_rfl) (by kernel_rfl) (fun _ _ _ h => h) (Or.inl ⟨by rfl, fun w' _ => ?yd16⟩) HH.out ?_
              case yd16 => (go_simp; try with_reducible rfl)
              try simp only [List.getElem_toArray, List.getElem_cons_succ, List.getElem_cons_zero, Act.put, List.setIfInBounds_toArray, List.set_cons_zero, List.set_cons_succ]
              refine wpAnyH_take (i := 17) (v := ?vd17) rfl (by kernel_rfl) (by kernel_rfl) (by kernel_rfl) (fun _ _ _ h => h) (Or.inl ⟨by rfl, fun w' _ => ?yd17⟩) HH.out ?_
              case yd17 => (go_simp; try with_reducible rfl)
              refine wpAnyH_take (i := 18) (v := .agg #[]) rfl (by kernel_rfl) (by kernel_rfl) (by kernel_rfl) (fun _ _ _ h => h) (Or.inl ⟨by rfl, fun w' hw' => ?yd18⟩) HH.out ?_
              case yd18 => exact exec_load 27 (.tmp 5) rfl rfl hw'.2.1 Try.underlying27 rfl HIR.out
              refine wpAnyH_take (i := 19) (v := .agg (bva k)) rfl (by kernel_rfl) (by kernel_rfl) (by kernel_rfl) (fun _ _ _ h => h) (Or.inl ⟨by rfl, fun w' hw' => ?yd19⟩) HH.out ?_
              case yd19 => exact exec_load 23 (.tmp 2) rfl rfl hw'.1 Try.underlying23 rfl HI.out
              try simp only [List.getElem_toArray, List.getElem_cons_succ, List.getElem_cons_zero, Act.put, List.setIfInBounds_toArray, List.set_cons_zero, List.set_cons_succ]
              refine wpAnyH_take (i := 20) (v := ?vd20) rfl (by kernel_rfl) (by kernel_rfl) (by kernel_rfl) (fun _ _ _ h => h) (Or.inl ⟨by rfl, fun w' _ => ?yd20⟩) HH.out ?_
              case yd20 => (go_simp; try with_reducible rfl)
              try simp only [List.getElem_toArray, List.getElem_cons_succ, List.getElem_cons_zero, Act.put, List.setIfInBounds_toArray, List.set_cons_zero, List.set_cons_succ]
              refine wpAnyH_take (i := 22) (v := ?vd22) rfl (by kernel_rfl) (by kernel_rfl) (by kernel_rfl) (fun _ _ _ h => h) (Or.inl ⟨by rfl, fun w' _ => ?yd22⟩) HH.out ?_
              case yd22 => (go_simp; try with_reducible rfl)
              try simp only [List.getElem_toArray, List.getElem_cons_succ, List.getElem_cons_zero, Act.put, List.setIfInBounds_toArray, List.set_cons_zero, List.set_cons_succ]
              refine wpAnyH_take (i := 23) (v := ?vd23) rfl (by kernel_rfl) (by kernel_rfl) (by kernel_rfl) (fun _ _ _ h => h) (Or.inl ⟨by rfl, fun w' _ => ?yd23⟩) HH.out ?_
              case yd23 => (go_simp; try with_reducible rfl)
              try simp only [List.getElem_toArray, List.getElem_cons_succ, List.getElem_cons_zero, Act.put, List.setIfInBounds_toArray, List.set_cons_zero, List.set_cons_succ]
              refine wpAnyH_take (i := 24) (v := .agg (bva sm)) rfl (by kernel_rfl) (by kernel_rfl) (by kernel_rfl) (fun _ _ _ h => h) (Or.inl ⟨by rfl, fun w' hw' => ?yd24⟩) HH.out ?_
              case yd24 => (rw [← HSO.out]; exact exec_load_mid 35 (.tmp 64) rfl zz 0 rfl (bv (o.take 16)) _ (front_range hw'.2.2.2.2.2.2.1 16) Try.underlying35 rfl HIS.out)
              try simp only [List.getElem_toArray, List.getElem_cons_succ, List.getElem_cons_zero, Act.put, List.setIfInBounds_toArray, List.set_cons_zero, List.set_cons_succ]
              refine wpAnyH_ready (rs := [21]) (by kernel_rfl) (by simp) (AllReadyH.cons rfl (fun K hK => ?_) AllReadyH.nil)
              go_simp
              refine (Ci.realsum_any k HK.out A n c l _ HL.out HC.out HM.out ((HR.out.below HH.out.2.2.2.2.2.2.2).more HH.out.2.2.2.2.2.2.2.size) (by omega)).mono ?_
              rintro e wp3 ⟨rfl, bw⟩
              rw [← HSM.out]
              go_simp
              refine hK.out _ _ ⟨HH.out.1.below bw, HH.out.2.1.below bw, HH.out.2.2.1.below bw, HH.out.2.2.2.1.below bw, HH.out.2.2.2.2.1.below bw, HH.out.2.2.2.2.2.1.below bw, HH.out.2.2.2.2.2.2.1.below bw, HH.out.2.2.2.2.2.2.2.trans (bw.mono HH.out.2.2.2.2.2.2.2.size)⟩ (fun hh => ?_)
              have HH' := Lib.hid hh
              clear hh hK K HH bw
              have HH := Lib.hid HH'.out
              clear HH'
              try simp only [List.getElem_toArray, List.getElem_cons_succ, List.getElem_cons_zero, Act.put, List.setIfInBounds_toArray, List.set_cons_zero, List.set_cons_succ]
              refine wpAnyH_take (i := 25) (v := ?vd25) rfl (by kernel_rfl) (by kernel_rfl) (by kernel_rfl) (fun _ _ _ h => h) (Or.inl ⟨by rfl, fun w' _ => ?yd25⟩) HH.out ?_
              case yd25 => (go_simp; try with_reducible rfl)
              try simp only [List.getElem_toArray, List.getElem_cons_succ, List.getElem_cons_zero, Act.put, List.setIfInBounds_toArray, List.set_cons_zero, List.set_cons_succ]
              refine wpAnyH_take (i := 26) (v := ?vd26) rfl (by kernel_rfl) (by kernel_rfl) (by kernel_rfl) (fun _ _ _ h => h) (Or.inl ⟨by rfl, fun w' _ => ?yd26⟩) HH.out ?_
              case yd26 => (go_simp; try with_reducible rfl)
              refine wpAnyH_take (i := 27) (v := ?vd27) rfl (by kernel_rfl) (by kernel_rfl) (by kernel_rfl) (fun _ _ _ h => h) (Or.inl ⟨by rfl, fun w' _ => ?yd27⟩) HH.out ?_
              case yd27 => (go_simp; try with_reducible rfl)
              try simp only [List.getElem_toArray, List.getElem_cons_succ, List.getElem_cons_zero, Act.put, List.setIfInBounds_toArray, List.set_cons_zero, List.set_cons_succ]
              refine wpAnyH_done (by kernel_rfl) ?_ _
              go_wp2_with fail
              go_ret
              exact ⟨rfl, HH.out.2.2.2.2.2.2.2⟩
      · skip
        go_simp
        refine hK _ _ ?_
        clear hK K
        have T11 : Hid (Blk (World.alloc (World.alloc ws.drew (.cells #[] 5)) (.cells (bva z) 23)) (ws.heap.size + 1) (bva z) 23) := heap_alloc2_new _ _ _
        have Y11 : Hid (Below ws.heap.size ws (World.alloc (World.alloc ws.drew (.cells #[] 5)) (.cells (bva z) 23))) := Y1.out.alloc Y1.out.size _
        have hz11 : ws.heap.size ≤ ws.heap.size + 1 := by have := Y1.out.size; (try simp at this); omega
        have O11 := Lib.hid (own_below O1.out (w' := (World.alloc (World.alloc ws.drew (.cells #[] 5)) (.cells (bva z) 23))) ((Below.refl _ _).alloc (Nat.le_refl _) _))
        have N11 : Hid (∀ j, (Value.slice (some ⟨ws.heap.size, 0, none⟩) 0 0).ownBlock = some j → j ≠ ws.heap.size + 1) := fun j hj => by have := (O1.out.lt j hj).2; (try simp at this); omega
        try simp only [List.getElem_toArray, List.getElem_cons_succ, List.getElem_cons_zero, Act.put, List.setIfInBounds_toArray, List.set_cons_zero, List.set_cons_succ]
        refine wpAny_ready (rs := [2]) (by kernel_rfl) (by simp) (AllReady.cons rfl (fun K hK => ?_) AllReady.nil)
        · skip
          refine step_app _ (by rfl) (.tmp 35) (.tmp 36) _ rfl Wi.bytesElt (base := ws.heap.size) (v := .slice (some ⟨ws.heap.size, 0, none⟩) 0 0) rfl O11.out (m := 32) rfl (Ci.rd_bva (D0.out.below (Y11.out))) ((bv_length k).trans HK.out) (bv_one _) ?_ ?_ ?_
          · omega
          · exact Y11.out.size
          intro Aa12 ca12 wa12 ho hg hor
          have Y12 := Lib.hid (app_below Y11.out O11.out hg (Nat.le_refl _) Y11.out.size)
          have O12 := Lib.hid (own_eq ho (n' := 32) (by omega) (xs' := bv (k)) rfl)
          have N12 : Hid (∀ j, (Value.slice Aa12 32 ca12).ownBlock = some j → j ≠ (ws.heap.size + 1)) := fun j hj => by
            have htl := T11.out.lt
            rcases hor with h | h
            · exact N11.out j (h.symm.trans hj)
            · have hj' := h.symm.trans hj; injection hj' with hj'; (try simp at htl hj'); omega
          have T12 : Hid (Blk wa12 (ws.heap.size + 1) (bva z) 23) := by show Blk _ _ _ _; unfold Blk; rw [hg.block _ T11.out.lt (fun e => N11.out _ e.symm rfl)]; exact T11.out
          clear ho hg hor O11 Y11 N11 T11
          refine hK _ _ ?_
          clear hK K
          try simp only [List.getElem_toArray, List.getElem_cons_succ, List.getElem_cons_zero, Act.put, List.setIfInBounds_toArray, List.set_cons_zero, List.set_cons_succ]
          refine wpAny_ready (rs := [4]) (by kernel_rfl) (by simp) (AllReady.cons rfl (fun K hK => ?_) AllReady.nil)
          · skip
            refine step_app _ (by rfl) (.tmp 37) (.tmp 38) _ rfl Wi.bytesElt (base := ws.heap.size) (v := .slice Aa12 32 ca12) rfl O12.out (m := 32) rfl (Ci.rd_bva (DM.out.below (Y12.out))) ((bv_length mi).trans M3.out) (bv_one _) ?_ ?_ ?_
            · omega
            · exact Y12.out.size
            intro Aa13 ca13 wa13 ho hg hor
            have Y13 := Lib.hid (app_below Y12.out O12.out hg (Nat.le_refl _) Y12.out.size)
            have O13 := Lib.hid (own_eq ho (n' := 64) (by omega) (xs' := bv (k ++ mi)) (by rw [bv_append]))
            have N13 : Hid (∀ j, (Value.slice Aa13 64 ca13).ownBlock = some j → j ≠ (ws.heap.size + 1)) := fun j hj => by
              have htl := T12.out.lt
              rcases hor with h | h
              · exact N12.out j (h.symm.trans hj)
              · have hj' := h.symm.trans hj; injection hj' with hj'; (try simp at htl hj'); omega
            have T13 : Hid (Blk wa13 (ws.heap.size + 1) (bva z) 23) := by show Blk _ _ _ _; unfold Blk; rw [hg.block _ T12.out.lt (fun e => N12.out _ e.symm rfl)]; exact T12.out
            clear ho hg hor O12 Y12 N12 T12
            refine hK _ _ ?_
            clear hK K
            try simp only [List.getElem_toArray, List.getElem_cons_succ, List.getElem_cons_zero, Act.put, List.setIfInBounds_toArray, List.set_cons_zero, List.set_cons_succ]
            refine wpAny_ready (rs := [5]) (by kernel_rfl) (by simp) (AllReady.cons rfl (fun K hK => ?_) AllReady.nil)
            · skip
              go_simp
              refine (sum_any Aa13 64 ca13 (k ++ mi) _ (by rw [List.length_append, HK.out, M3.out]) (Nat.le_refl _) (Rd.own O13.out) (by omega)).mono ?_
              rintro e wb14 ⟨rfl, bw⟩
              rw [← HO.out]
              have Y14 := Lib.hid (Y13.out.trans (bw.mono Y13.out.size))
              have T14 := Lib.hid (T13.out.below bw)
              clear bw O13 Y13 N13 T13
              go_simp
              refine hK _ _ ?_
              clear hK K
              try simp only [List.getElem_toArray, List.getElem_cons_succ, List.getElem_cons_zero, Act.put, List.setIfInBounds_toArray, List.set_cons_zero, List.set_cons_succ]
              refine wpAny_ready (rs := [7]) (by kernel_rfl) (by simp) (AllReady.cons rfl (fun K hK => ?_) AllReady.nil)
              rw [if_pos (by rfl)]
              refine wp_store_row 23 (.tmp 11) (.tmp 40) rfl (ws.heap.size + 1) (bva o) rfl rfl 23 (bva z) T14.out HIO.out (by simp only [bva_size, OL3.out, Z3.out]) (bva_one _) ?_
              generalize hw9 : World.setRow _ _ _ = w9
              have hzz : ws.heap.size ≤ (ws.heap.size + 1) := hz11
              have y0 : Blk w9 w.heap.size (bva k) 23 := by rw [← hw9]; exact Ci.blk_row (D0.out.below Y14.out) (by have := D0.out.lt; omega)
              have y1 : Blk w9 w1.heap.size #[] 27 := by rw [← hw9]; exact Ci.blk_row (D1.out.below Y14.out) (by have := D1.out.lt; omega)
              have y2 : Blk w9 w2.heap.size (bva x) 23 := by rw [← hw9]; exact Ci.blk_row (D2.out.below Y14.out) (by have := D2.out.lt; omega)
              have y3 : Blk w9 (w2.heap.size + 1) (bva y) 23 := by rw [← hw9]; exact Ci.blk_row (D3.out.below Y14.out) (by have := D3.out.lt; omega)
              have y4 : Blk w9 w3.heap.size (bva x) 23 := by rw [← hw9]; exact Ci.blk_row (D4.out.below Y14.out) (by have := D4.out.lt; omega)
              have y5 : Blk w9 (w3.heap.size + 1) (bva y) 23 := by rw [← hw9]; exact Ci.blk_row (D5.out.below Y14.out) (by have := D5.out.lt; omega)
              have y6 : Blk w9 (ws.heap.size + 1) (bva o) 23 := by rw [← hw9]; exact setRow_heap _ _ _ _ _ _ T14.out
              have yb : Below w.heap.size w w9 := by rw [← hw9]; exact below_setRow (DB.out.trans (Y14.out.mono DB.out.size)) (Nat.le_trans DB.out.size hzz) _
              obtain ⟨zz, hzq⟩ : ∃ zz, zz = (ws.heap.size + 1) := ⟨_, rfl⟩
              rw [← hzq] at y6
              have ZQ0 := Lib.hid y0
              have ZQ1 := Lib.hid y1
              have ZQ2 := Lib.hid y2
              have ZQ3 := Lib.hid y3
              have ZQ4 := Lib.hid y4
              have ZQ5 := Lib.hid y5
              have ZQ6 := Lib.hid y6
              have ZB := Lib.hid yb
              clear y0 y1 y2 y3 y4 y5 y6 yb hw9 hzz T14 Y14
              refine hK _ _ ?_
              clear hK K
              refine wpAny_done (by kernel_rfl) ?_ _
              simp only [← hzq]
              clear hzq D0 D1 D2 D3 D4 D5 DM DB
              simp only [List.getElem_toArray, List.getElem_cons_succ, List.getElem_cons_zero, Act.put]
              go_wp2_with fail
              have hat : ∀ W, (Instr.arrayAt 35 (.slice (some ⟨zz, 0, none⟩) 16 32)).run Try.prog W = .ok (.pointer (some ⟨zz, 0, none⟩)) W := fun W => run_arrayAt W 35 _ _ _ _ _ Try.underlying35 (Nat.le_refl _)
              refine wp_region_held_drew (S := fun w' => Blk w' w.heap.size (bva k) 23 ∧ Blk w' w1.heap.size #[] 27 ∧ Blk w' w2.heap.size (bva x) 23 ∧ Blk w' (w2.heap.size + 1) (bva y) 23 ∧ Blk w' w3.heap.size (bva x) 23 ∧ Blk w' (w3.heap.size + 1) (bva y) 23 ∧ Blk w' zz (bva o) 23 ∧ Below w.heap.size w w') (by kernel_rfl) ⟨ZQ0.out, ZQ1.out, ZQ2.out, ZQ3.out, ZQ4.out, ZQ5.out, ZQ6.out, ZB.out.drew⟩ (fun hh => ?_)
              have HH := Lib.hid hh
              clear hh
              refine wpAnyH_take (i := 0) (v := .agg (bva x)) rfl (by kernel_rfl) (by kernel_rfl) (by kernel_rfl) (fun _ _ _ h => h) (Or.inl ⟨by rfl, fun w' hw' => ?ye0⟩) HH.out ?_
              case ye0 => exact exec_load 23 (.tmp 6) rfl rfl hw'.2.2.1 Try.underlying23 rfl HIX.out
              refine wpAnyH_take (i := 1) (v := .agg (bva x)) rfl (by kernel_rfl) (by kernel_rfl) (by kernel_rfl) (fun _ _ _ h => h) (Or.inl ⟨by rfl, fun w' hw' => ?ye1⟩) HH.out ?_
              case ye1 => exact exec_load 23 (.tmp 8) rfl rfl hw'.2.2.2.2.1 Try.underlying23 rfl HIX.out
              try simp only [List.getElem_toArray, List.getElem_cons_succ, List.getElem_cons_zero, Act.put, List.setIfInBounds_toArray, List.set_cons_zero, List.set_cons_succ]
              refine wpAnyH_take (i := 2) (v := ?ve2) rfl (by kernel_rfl) (by kernel_rfl) (by kernel_rfl) (fun _ _ _ h => h) (Or.inl ⟨by rfl, fun w' _ => ?ye2⟩) HH.out ?_
              case ye2 => (go_simp; try with_reducible rfl)
              refine wpAnyH_take (i := 3) (v := ?ve3) rfl (by kernel_rfl) (by kernel_rfl) (by kernel_rfl) (fun _ _ _ h => h) (Or.inl ⟨by rfl, fun w' _ => ?ye3⟩) HH.out ?_
              case ye3 => (go_simp; try with_reducible rfl)
              refine wpAnyH_take (i := 4) (v := .agg (bva y)) rfl (by kernel_rfl) (by kernel_rfl) (by kernel_rfl) (fun _ _ _ h => h) (Or.inl ⟨by rfl, fun w' hw' => ?ye4⟩) HH.out ?_
              case ye4 => exact exec_load 23 (.tmp 7) rfl rfl hw'.2.2.2.1 Try.underlying23 rfl HIY.out
              try simp only [List.getElem_toArray, List.getElem_cons_succ, List.getElem_cons_zero, Act.put, List.setIfInBounds_toArray, List.set_cons_zero, List.set_cons_succ]
              refine wpAnyH_take (i := 5) (v := .agg (bva y)) rfl (by kernel_rfl) (by kernel_rfl) (by kernel_rfl) (fun _ _ _ h => h) (Or.inl ⟨by rfl, fun w' hw' => ?ye5⟩) HH.out ?_
              case ye5 => exact exec_load 23 (.tmp 9) rfl rfl hw'.2.2.2.2.2.1 Try.underlying23 rfl HIY.out
              try simp only [List.getElem_toArray, List.getElem_cons_succ, List.getElem_cons_zero, Act.put, List.setIfInBounds_toArray, List.set_cons_zero, List.set_cons_succ]
              refine wpAnyH_take (i := 6) (v := ?ve6) rfl (by kernel_rfl) (by kernel_rfl) (by kernel_rfl) (fun _ _ _ h => h) (Or.inl ⟨by rfl, fun w' _ => ?ye6⟩) HH.out ?_
              case ye6 => (go_simp; try with_reducible rfl)
              refine wpAnyH_take (i := 7) (v := ?ve7) rfl (by kernel_rfl) (by kernel_rfl) (by kernel_rfl) (fun _ _ _ h => h) (Or.inl ⟨by rfl, fun w' _ => ?ye7⟩) HH.out ?_
              case ye7 => (go_simp; try with_reducible rfl)
              try simp only [List.getElem_toArray, List.getElem_cons_succ, List.getElem_cons_zero, Act.put, List.setIfInBounds_toArray, List.set_cons_zero, List.set_cons_succ]
              refine wpAnyH_take (i := 8) (v := ?ve8) rfl (by kernel_rfl) (by kernel_rfl) (by kernel_rfl) (fun _ _ _ h => h) (Or.inl ⟨by rfl, fun w' _ => ?ye8⟩) HH.out ?_
              case ye8 => (go_simp; try with_reducible rfl)
              refine wpAnyH_take (i := 9) (v := .agg #[]) rfl (by kernel_rfl) (by kernel_rfl) (by kernel_rfl) (fun _ _ _ h => h) (Or.inl ⟨by rfl, fun w' hw' => ?ye9⟩) HH.out ?_
              case ye9 => exact exec_load 27 (.tmp 5) rfl rfl hw'.2.1 Try.underlying27 rfl HIR.out
              refine wpAnyH_take (i := 10) (v := .agg (bva k)) rfl (by kernel_rfl) (by kernel_rfl) (by kernel_rfl) (fun _ _ _ h => h) (Or.inl ⟨by rfl, fun w' hw' => ?ye10⟩) HH.out ?_
              case ye10 => exact exec_load 23 (.tmp 2) rfl rfl hw'.1 Try.underlying23 rfl HI.out
              try simp only [List.getElem_toArray, List.getElem_cons_succ, List.getElem_cons_zero, Act.put, List.setIfInBounds_toArray, List.set_cons_zero, List.set_cons_succ]
              refine wpAnyH_take (i := 12) (v := .agg #[]) rfl (by kernel_rfl) (by kernel_rfl) (by kernel_rfl) (fun _ _ _ h => h) (Or.inl ⟨by rfl, fun w' hw' => ?ye12⟩) HH.out ?_
              case ye12 => exact exec_load 27 (.tmp 5) rfl rfl hw'.2.1 Try.underlying27 rfl HIR.out
              refine wpAnyH_take (i := 13) (v := .agg (bva k)) rfl (by kernel_rfl) (by kernel_rfl) (by kernel_rfl) (fun _ _ _ h => h) (Or.inl ⟨by rfl, fun w' hw' => ?ye13⟩) HH.out ?_
              case ye13 => exact exec_load 23 (.tmp 2) rfl rfl hw'.1 Try.underlying23 rfl HI.out
              try simp only [List.getElem_toArray, List.getElem_cons_succ, List.getElem_cons_zero, Act.put, List.setIfInBounds_toArray, List.set_cons_zero, List.set_cons_succ]
              refine wpAnyH_ready (rs := [11]) (by kernel_rfl) (by simp) (AllReadyH.cons rfl (fun K hK => ?_) AllReadyH.nil)
              go_simp
              refine (Ci.realpad_any k HK.out 1 _).mono ?_
              rintro e wp1 ⟨rfl, bw⟩
              rw [← HP.out]
              go_simp
              refine hK.out _ _ ⟨HH.out.1.below bw, HH.out.2.1.below bw, HH.out.2.2.1.below bw, HH.out.2.2.2.1.below bw, HH.out.2.2.2.2.1.below bw, HH.out.2.2.2.2.2.1.below bw, HH.out.2.2.2.2.2.2.1.below bw, HH.out.2.2.2.2.2.2.2.trans (bw.mono HH.out.2.2.2.2.2.2.2.size)⟩ (fun hh => ?_)
              have HH' := Lib.hid hh
              clear hh hK K HH bw
              have HH := Lib.hid HH'.out
              clear HH'
              try simp only [List.getElem_toArray, List.getElem_cons_succ, List.getElem_cons_zero, Act.put, List.setIfInBounds_toArray, List.set_cons_zero, List.set_cons_succ]
              refine wpAnyH_ready (rs := [14]) (by kernel_rfl) (by simp) (AllReadyH.cons rfl (fun K hK => ?_) AllReadyH.nil)
              go_simp
              refine (Ci.realpad_any k HK.out 1 _).mono ?_
              rintro e wp2 ⟨rfl, bw⟩
              rw [← HP.out]
              go_simp
              refine hK.out _ _ ⟨HH.out.1.below bw, HH.out.2.1.below bw, HH.out.2.2.1.below bw, HH.out.2.2.2.1.below bw, HH.out.2.2.2.2.1.below bw, HH.out.2.2.2.2.2.1.below bw, HH.out.2.2.2.2.2.2.1.below bw, HH.out.2.2.2.2.2.2.2.trans (bw.mono HH.out.2.2.2.2.2.2.2.size)⟩ (fun hh => ?_)
              have HH' := Lib.hid hh
              clear hh hK K HH bw
              have HH := Lib.hid HH'.out
              clear HH'
              try simp only [List.getElem_toArray, List.getElem_cons_succ, List.getElem_cons_zero, Act.put, List.setIfInBounds_toArray, List.set_cons_zero, List.set_cons_succ]
              refine wpAnyH_take (i := 15) (v := ?ve15) rfl (by kernel_rfl) (by kernel_rfl) (by kernel_rfl) (fun _ _ _ h => h) (Or.inl ⟨by rfl, fun w' _ => ?ye15⟩) HH.out ?_
              case ye15 => (go_simp; try with_reducible rfl)
              refine wpAnyH_take (i := 16) (v := ?ve16) rfl (by kernel_rfl) (by kernel_rfl) (by kernel_rfl) (fun _ _ _ h => h) (Or.inl ⟨by rfl, fun w' _ => ?ye16⟩) HH.out ?_
              case ye16 => (go_simp; try with_reducible rfl)
              try simp only [List.getElem_toArray, List.getElem_cons_succ, List.getElem_cons_zero, Act.put, List.setIfInBounds_toArray, List.set_cons_zero, List.set_cons_succ]
              refine wpAnyH_take (i := 17) (v := ?ve17) rfl (by kernel_rfl) (by kernel_rfl) (by kernel_rfl) (fun _ _ _ h => h) (Or.inl ⟨by rfl, fun w' _ => ?ye17⟩) HH.out ?_
              case ye17 => (go_simp; try with_reducible rfl)
              refine wpAnyH_take (i := 18) (v := .agg #[]) rfl (by kernel_rfl) (by kernel_rfl) (by kernel_rfl) (fun _ _ _ h => h) (Or.inl ⟨by rfl, fun w' hw' => ?ye18⟩) HH.out ?_
              case ye18 => exact exec_load 27 (.tmp 5) rfl rfl hw'.2.1 Try.underlying27 rfl HIR.out
              refine wpAnyH_take (i := 19) (v := .agg (bva k)) rfl (by kernel_rfl) (by kernel_rfl) (by kernel_rfl) (fun _ _ _ h => h) (Or.inl ⟨by rfl, fun w' hw' => ?ye19⟩) HH.out ?_
              case ye19 => exact exec_load 23 (.tmp 2) rfl rfl hw'.1 Try.underlying23 rfl HI.out
              try simp only [List.getElem_toArray, List.getElem_cons_succ, List.getElem_cons_zero, Act.put, List.setIfInBounds_toArray, List.set_cons_zero, List.set_cons_succ]
              refine wpAnyH_take (i := 20) (v := ?ve20) rfl (by kernel_rfl) (by kernel_rfl) (by kernel_rfl) (fun _ _ _ h => h) (Or.inl ⟨by rfl, fun w' _ => ?ye20⟩) HH.out ?_
              case ye20 => (go_simp; try with_reducible rfl)
              try simp only [List.getElem_toArray, List.getElem_cons_succ, List.getElem_cons_zero, Act.put, List.setIfInBounds_toArray, List.set_cons_zero, List.set_cons_succ]
              refine wpAnyH_take (i := 22) (v := ?ve22) rfl (by kernel_rfl) (by kernel_rfl) (by kernel_rfl) (fun _ _ _ h => h) (Or.inl ⟨by rfl, fun w' _ => ?ye22⟩) HH.out ?_
              case ye22 => (go_simp; try with_reducible rfl)
              try simp only [List.getElem_toArray, List.getElem_cons_succ, List.getElem_cons_zero, Act.put, List.setIfInBounds_toArray, List.set_cons_zero, List.set_cons_succ]
              refine wpAnyH_take (i := 23) (v := ?ve23) rfl (by kernel_rfl) (by kernel_rfl) (by kernel_rfl) (fun _ _ _ h => h) (Or.inl ⟨by rfl, fun w' _ => ?ye23⟩) HH.out ?_
              case ye23 => (go_simp; try with_reducible rfl)
              try simp only [List.getElem_toArray, List.getElem_cons_succ, List.getElem_cons_zero, Act.put, List.setIfInBounds_toArray, List.set_cons_zero, List.set_cons_succ]
              refine wpAnyH_take (i := 24) (v := .agg (bva sm)) rfl (by kernel_rfl) (by kernel_rfl) (by kernel_rfl) (fun _ _ _ h => h) (Or.inl ⟨by rfl, fun w' hw' => ?ye24⟩) HH.out ?_
              case ye24 => (rw [← HSO.out]; exact exec_load_mid 35 (.tmp 64) rfl zz 0 rfl (bv (o.take 16)) _ (front_range hw'.2.2.2.2.2.2.1 16) Try.underlying35 rfl HIS.out)
              try simp only [List.getElem_toArray, List.getElem_cons_succ, List.getElem_cons_zero, Act.put, List.setIfInBounds_toArray, List.set_cons_zero, List.set_cons_succ]
              refine wpAnyH_ready (rs := [21]) (by kernel_rfl) (by simp) (AllReadyH.cons rfl (fun K hK => ?_) AllReadyH.nil)
              go_simp
              refine (Ci.realsum_any k HK.out A n c l _ HL.out HC.out HM.out ((HR.out.below HH.out.2.2.2.2.2.2.2).more HH.out.2.2.2.2.2.2.2.size) (by omega)).mono ?_
              rintro e wp3 ⟨rfl, bw⟩
              rw [← HSM.out]
              go_simp
              refine hK.out _ _ ⟨HH.out.1.below bw, HH.out.2.1.below bw, HH.out.2.2.1.below bw, HH.out.2.2.2.1.below bw, HH.out.2.2.2.2.1.below bw, HH.out.2.2.2.2.2.1.below bw, HH.out.2.2.2.2.2.2.1.below bw, HH.out.2.2.2.2.2.2.2.trans (bw.mono HH.out.2.2.2.2.2.2.2.size)⟩ (fun hh => ?_)
              have HH' := Lib.hid hh
              clear hh hK K HH bw
              have HH := Lib.hid HH'.out
              clear HH'
              try simp only [List.getElem_toArray, List.getElem_cons_succ, List.getElem_cons_zero, Act.put, List.setIfInBounds_toArray, List.set_cons_zero, List.set_cons_succ]
              refine wpAnyH_take (i := 25) (v := ?ve25) rfl (by kernel_rfl) (by kernel_rfl) (by kernel_rfl) (fun _ _ _ h => h) (Or.inl ⟨by rfl, fun w' _ => ?ye25⟩) HH.out ?_
              case ye25 => (go_simp; try with_reducible rfl)
              try simp only [List.getElem_toArray, List.getElem_cons_succ, List.getElem_cons_zero, Act.put, List.setIfInBounds_toArray, List.set_cons_zero, List.set_cons_succ]
              refine wpAnyH_take (i := 26) (v := ?ve26) rfl (by kernel_rfl) (by kernel_rfl) (by kernel_rfl) (fun _ _ _ h => h) (Or.inl ⟨by rfl, fun w' _ => ?ye26⟩) HH.out ?_
              case ye26 => (go_simp; try with_reducible rfl)
              refine wpAnyH_take (i := 27) (v := ?ve27) rfl (by kernel_rfl) (by kernel_rfl) (by kernel_rfl) (fun _ _ _ h => h) (Or.inl ⟨by rfl, fun w' _ => ?ye27⟩) HH.out ?_
              case ye27 => (go_simp; try with_reducible rfl)
              try simp only [List.getElem_toArray, List.getElem_cons_succ, List.getElem_cons_zero, Act.put, List.setIfInBounds_toArray, List.set_cons_zero, List.set_cons_succ]
              refine wpAnyH_done (by kernel_rfl) ?_ _
              go_wp2_with fail
              go_ret
              exact ⟨rfl, HH.out.2.2.2.2.2.2.2⟩
    · skip
      go_simp
      refine hK _ _ ?_
      clear hK K
      have T15 : Hid (Blk (World.alloc ws.drew (.cells (bva z) 23)) (ws.heap.size) (bva z) 23) := heap_alloc_new _ _
      have Y15 : Hid (Below ws.heap.size ws (World.alloc ws.drew (.cells (bva z) 23))) := Y0.out.alloc Y0.out.size _
      have hz15 : ws.heap.size ≤ ws.heap.size := by have := Y0.out.size; (try simp at this); omega
      try simp only [List.getElem_toArray, List.getElem_cons_succ, List.getElem_cons_zero, Act.put, List.setIfInBounds_toArray, List.set_cons_zero, List.set_cons_succ]
      refine wpAny_ready (rs := [0]) (by kernel_rfl) (by simp) (AllReady.cons rfl (fun K hK => ?_) AllReady.nil)
      · skip
        go_simp
        refine hK _ _ ?_
        clear hK K
        have Y16 : Hid (Below ws.heap.size ws (World.alloc (World.alloc ws.drew (.cells (bva z) 23)) (.cells #[] 5))) := Y15.out.alloc Y15.out.size _
        have O16 : Hid (World.ownsRow (World.alloc (World.alloc ws.drew (.cells (bva z) 23)) (.cells #[] 5)) ws.heap.size 5 1 (.slice (some ⟨ws.heap.size + 1, 0, none⟩) 0 0) 0 (bv [])) := by
          have h := World.ownsRow_lit (base := ws.heap.size) (size := 1) (e := 5) (World.alloc ws.drew (.cells (bva z) 23)) #[] 0 Y15.out.size (Nat.zero_le _) rfl
          rw [show (World.alloc ws.drew (.cells (bva z) 23)).heap.size = ws.heap.size + 1 from by simp] at h
          exact h
        have N16 : Hid (∀ j, (Value.slice (some ⟨ws.heap.size + 1, 0, none⟩) 0 0).ownBlock = some j → j ≠ (ws.heap.size)) := fun j hj => by
            have hj' : ws.heap.size + 1 = j := by injection hj
            have := T15.out.lt; (try simp at this); omega
        have T16 := Lib.hid (T15.out.below (w1 := (World.alloc (World.alloc ws.drew (.cells (bva z) 23)) (.cells #[] 5))) ((Below.refl _ _).alloc (Nat.le_refl _) _))
        try simp only [List.getElem_toArray, List.getElem_cons_succ, List.getElem_cons_zero, Act.put, List.setIfInBounds_toArray, List.set_cons_zero, List.set_cons_succ]
        refine wpAny_ready (rs := [2]) (by kernel_rfl) (by simp) (AllReady.cons rfl (fun K hK => ?_) AllReady.nil)
        · skip
          refine step_app _ (by rfl) (.tmp 35) (.tmp 36) _ rfl Wi.bytesElt (base := ws.heap.size) (v := .slice (some ⟨ws.heap.size + 1, 0, none⟩) 0 0) rfl O16.out (m := 32) rfl (Ci.rd_bva (D0.out.below (Y16.out))) ((bv_length k).trans HK.out) (bv_one _) ?_ ?_ ?_
          · omega
          · exact Y16.out.size
          intro Aa17 ca17 wa17 ho hg hor
          have Y17 := Lib.hid (app_below Y16.out O16.out hg (Nat.le_refl _) Y16.out.size)
          have O17 := Lib.hid (own_eq ho (n' := 32) (by omega) (xs' := bv (k)) rfl)
          have N17 : Hid (∀ j, (Value.slice Aa17 32 ca17).ownBlock = some j → j ≠ (ws.heap.size)) := fun j hj => by
            have htl := T16.out.lt
            rcases hor with h | h
            · exact N16.out j (h.symm.trans hj)
            · have hj' := h.symm.trans hj; injection hj' with hj'; (try simp at htl hj'); omega
          have T17 : Hid (Blk wa17 (ws.heap.size) (bva z) 23) := by show Blk _ _ _ _; unfold Blk; rw [hg.block _ T16.out.lt (fun e => N16.out _ e.symm rfl)]; exact T16.out
          clear ho hg hor O16 Y16 N16 T16
          refine hK _ _ ?_
          clear hK K
          try simp only [List.getElem_toArray, List.getElem_cons_succ, List.getElem_cons_zero, Act.put, List.setIfInBounds_toArray, List.set_cons_zero, List.set_cons_succ]
          refine wpAny_ready (rs := [4]) (by kernel_rfl) (by simp) (AllReady.cons rfl (fun K hK => ?_) AllReady.nil)
          · skip
            refine step_app _ (by rfl) (.tmp 37) (.tmp 38) _ rfl Wi.bytesElt (base := ws.heap.size) (v := .slice Aa17 32 ca17) rfl O17.out (m := 32) rfl (Ci.rd_bva (DM.out.below (Y17.out))) ((bv_length mi).trans M3.out) (bv_one _) ?_ ?_ ?_
            · omega
            · exact Y17.out.size
            intro Aa18 ca18 wa18 ho hg hor
            have Y18 := Lib.hid (app_below Y17.out O17.out hg (Nat.le_refl _) Y17.out.size)
            have O18 := Lib.hid (own_eq ho (n' := 64) (by omega) (xs' := bv (k ++ mi)) (by rw [bv_append]))
            have N18 : Hid (∀ j, (Value.slice Aa18 64 ca18).ownBlock = some j → j ≠ (ws.heap.size)) := fun j hj => by
              have htl := T17.out.lt
              rcases hor with h | h
              · exact N17.out j (h.symm.trans hj)
              · have hj' := h.symm.trans hj; injection hj' with hj'; (try simp at htl hj'); omega
            have T18 : Hid (Blk wa18 (ws.heap.size) (bva z) 23) := by show Blk _ _ _ _; unfold Blk; rw [hg.block _ T17.out.lt (fun e => N17.out _ e.symm rfl)]; exact T17.out
            clear ho hg hor O17 Y17 N17 T17
            refine hK _ _ ?_
            clear hK K
            try simp only [List.getElem_toArray, List.getElem_cons_succ, List.getElem_cons_zero, Act.put, List.setIfInBounds_toArray, List.set_cons_zero, List.set_cons_succ]
            refine wpAny_ready (rs := [5]) (by kernel_rfl) (by simp) (AllReady.cons rfl (fun K hK => ?_) AllReady.nil)
            · skip
              go_simp
              refine (sum_any Aa18 64 ca18 (k ++ mi) _ (by rw [List.length_append, HK.out, M3.out]) (Nat.le_refl _) (Rd.own O18.out) (by omega)).mono ?_
              rintro e wb19 ⟨rfl, bw⟩
              rw [← HO.out]
              have Y19 := Lib.hid (Y18.out.trans (bw.mono Y18.out.size))
              have T19 := Lib.hid (T18.out.below bw)
              clear bw O18 Y18 N18 T18
              go_simp
              refine hK _ _ ?_
              clear hK K
              try simp only [List.getElem_toArray, List.getElem_cons_succ, List.getElem_cons_zero, Act.put, List.setIfInBounds_toArray, List.set_cons_zero, List.set_cons_succ]
              refine wpAny_ready (rs := [7]) (by kernel_rfl) (by simp) (AllReady.cons rfl (fun K hK => ?_) AllReady.nil)
              rw [if_pos (by rfl)]
              refine wp_store_row 23 (.tmp 11) (.tmp 40) rfl (ws.heap.size) (bva o) rfl rfl 23 (bva z) T19.out HIO.out (by simp only [bva_size, OL3.out, Z3.out]) (bva_one _) ?_
              generalize hw9 : World.setRow _ _ _ = w9
              have hzz : ws.heap.size ≤ (ws.heap.size) := hz15
              have y0 : Blk w9 w.heap.size (bva k) 23 := by rw [← hw9]; exact Ci.blk_row (D0.out.below Y19.out) (by have := D0.out.lt; omega)
              have y1 : Blk w9 w1.heap.size #[] 27 := by rw [← hw9]; exact Ci.blk_row (D1.out.below Y19.out) (by have := D1.out.lt; omega)
              have y2 : Blk w9 w2.heap.size (bva x) 23 := by rw [← hw9]; exact Ci.blk_row (D2.out.below Y19.out) (by have := D2.out.lt; omega)
              have y3 : Blk w9 (w2.heap.size + 1) (bva y) 23 := by rw [← hw9]; exact Ci.blk_row (D3.out.below Y19.out) (by have := D3.out.lt; omega)
              have y4 : Blk w9 w3.heap.size (bva x) 23 := by rw [← hw9]; exact Ci.blk_row (D4.out.below Y19.out) (by have := D4.out.lt; omega)
              have y5 : Blk w9 (w3.heap.size + 1) (bva y) 23 := by rw [← hw9]; exact Ci.blk_row (D5.out.below Y19.out) (by have := D5.out.lt; omega)
              have y6 : Blk w9 (ws.heap.size) (bva o) 23 := by rw [← hw9]; exact setRow_heap _ _ _ _ _ _ T19.out
              have yb : Below w.heap.size w w9 := by rw [← hw9]; exact below_setRow (DB.out.trans (Y19.out.mono DB.out.size)) (Nat.le_trans DB.out.size hzz) _
              obtain ⟨zz, hzq⟩ : ∃ zz, zz = (ws.heap.size) := ⟨_, rfl⟩
              rw [← hzq] at y6
              have ZQ0 := Lib.hid y0
              have ZQ1 := Lib.hid y1
              have ZQ2 := Lib.hid y2
              have ZQ3 := Lib.hid y3
              have ZQ4 := Lib.hid y4
              have ZQ5 := Lib.hid y5
              have ZQ6 := Lib.hid y6
              have ZB := Lib.hid yb
              clear y0 y1 y2 y3 y4 y5 y6 yb hw9 hzz T19 Y19
              refine hK _ _ ?_
              clear hK K
              refine wpAny_done (by kernel_rfl) ?_ _
              simp only [← hzq]
              clear hzq D0 D1 D2 D3 D4 D5 DM DB
              simp only [List.getElem_toArray, List.getElem_cons_succ, List.getElem_cons_zero, Act.put]
              go_wp2_with fail
              have hat : ∀ W, (Instr.arrayAt 35 (.slice (some ⟨zz, 0, none⟩) 16 32)).run Try.prog W = .ok (.pointer (some ⟨zz, 0, none⟩)) W := fun W => run_arrayAt W 35 _ _ _ _ _ Try.underlying35 (Nat.le_refl _)
              refine wp_region_held_drew (S := fun w' => Blk w' w.heap.size (bva k) 23 ∧ Blk w' w1.heap.size #[] 27 ∧ Blk w' w2.heap.size (bva x) 23 ∧ Blk w' (w2.heap.size + 1) (bva y) 23 ∧ Blk w' w3.heap.size (bva x) 23 ∧ Blk w' (w3.heap.size + 1) (bva y) 23 ∧ Blk w' zz (bva o) 23 ∧ Below w.heap.size w w') (by kernel_rfl) ⟨ZQ0.out, ZQ1.out, ZQ2.out, ZQ3.out, ZQ4.out, ZQ5.out, ZQ6.out, ZB.out.drew⟩ (fun hh => ?_)
              have HH := Lib.hid hh
              clear hh
              refine wpAnyH_take (i := 0) (v := .agg (bva x)) rfl (by kernel_rfl) (by kernel_rfl) (by kernel_rfl) (fun _ _ _ h => h) (Or.inl ⟨by rfl, fun w' hw' => ?yf0⟩) HH.out ?_
              case yf0 => exact exec_load 23 (.tmp 6) rfl rfl hw'.2.2.1 Try.underlying23 rfl HIX.out
              refine wpAnyH_take (i := 1) (v := .agg (bva x)) rfl (by kernel_rfl) (by kernel_rfl) (by kernel_rfl) (fun _ _ _ h => h) (Or.inl ⟨by rfl, fun w' hw' => ?yf1⟩) HH.out ?_
              case yf1 => exact exec_load 23 (.tmp 8) rfl rfl hw'.2.2.2.2.1 Try.underlying23 rfl HIX.out
              try simp only [List.getElem_toArray, List.getElem_cons_succ, List.getElem_cons_zero, Act.put, List.setIfInBounds_toArray, List.set_cons_zero, List.set_cons_succ]
              refine wpAnyH_take (i := 2) (v := ?vf2) rfl (by kernel_rfl) (by kernel_rfl) (by kernel_rfl) (fun _ _ _ h => h) (Or.inl ⟨by rfl, fun w' _ => ?yf2⟩) HH.out ?_
              case yf2 => (go_simp; try with_reducible rfl)
              refine wpAnyH_take (i := 3) (v := ?vf3) rfl (by kernel_rfl) (by kernel_rfl) (by kernel_rfl) (fun _ _ _ h => h) (Or.inl ⟨by rfl, fun w' _ => ?yf3⟩) HH.out ?_
              case yf3 => (go_simp; try with_reducible rfl)
              refine wpAnyH_take (i := 4) (v := .agg (bva y)) rfl (by kernel_rfl) (by kernel_rfl) (by kernel_rfl) (fun _ _ _ h => h) (Or.inl ⟨by rfl, fun w' hw' => ?yf4⟩) HH.out ?_
              case yf4 => exact exec_load 23 (.tmp 7) rfl rfl hw'.2.2.2.1 Try.underlying23 rfl HIY.out
              try simp only [List.getElem_toArray, List.getElem_cons_succ, List.getElem_cons_zero, Act.put, List.setIfInBounds_toArray, List.set_cons_zero, List.set_cons_succ]
              refine wpAnyH_take (i := 5) (v := .agg (bva y)) rfl (by kernel_rfl) (by kernel_rfl) (by kernel_rfl) (fun _ _ _ h => h) (Or.inl ⟨by rfl, fun w' hw' => ?yf5⟩) HH.out ?_
              case yf5 => exact exec_load 23 (.tmp 9) rfl rfl hw'.2.2.2.2.2.1 Try.underlying23 rfl HIY.out
              try simp only [List.getElem_toArray, List.getElem_cons_succ, List.getElem_cons_zero, Act.put, List.setIfInBounds_toArray, List.set_cons_zero, List.set_cons_succ]
              refine wpAnyH_take (i := 6) (v := ?vf6) rfl (by kernel_rfl) (by kernel_rfl) (by kernel_rfl) (fun _ _ _ h => h) (Or.inl ⟨by rfl, fun w' _ => ?yf6⟩) HH.out ?_
              case yf6 => (go_simp; try with_reducible rfl)
              refine wpAnyH_take (i := 7) (v := ?vf7) rfl (by kernel_rfl) (by kernel_rfl) (by kernel_rfl) (fun _ _ _ h => h) (Or.inl ⟨by rfl, fun w' _ => ?yf7⟩) HH.out ?_
              case yf7 => (go_simp; try with_reducible rfl)
              try simp only [List.getElem_toArray, List.getElem_cons_succ, List.getElem_cons_zero, Act.put, List.setIfInBounds_toArray, List.set_cons_zero, List.set_cons_succ]
              refine wpAnyH_take (i := 8) (v := ?vf8) rfl (by kernel_rfl) (by kernel_rfl) (by kernel_rfl) (fun _ _ _ h => h) (Or.inl ⟨by rfl, fun w' _ => ?yf8⟩) HH.out ?_
              case yf8 => (go_simp; try with_reducible rfl)
              refine wpAnyH_take (i := 9) (v := .agg #[]) rfl (by kernel_rfl) (by kernel_rfl) (by kernel_rfl) (fun _ _ _ h => h) (Or.inl ⟨by rfl, fun w' hw' => ?yf9⟩) HH.out ?_
              case yf9 => exact exec_load 27 (.tmp 5) rfl rfl hw'.2.1 Try.underlying27 rfl HIR.out
              refine wpAnyH_take (i := 10) (v := .agg (bva k)) rfl (by kernel_rfl) (by kernel_rfl) (by kernel_rfl) (fun _ _ _ h => h) (Or.inl ⟨by rfl, fun w' hw' => ?yf10⟩) HH.out ?_
              case yf10 => exact exec_load 23 (.tmp 2) rfl rfl hw'.1 Try.underlying23 rfl HI.out
              try simp only [List.getElem_toArray, List.getElem_cons_succ, List.getElem_cons_zero, Act.put, List.setIfInBounds_toArray, List.set_cons_zero, List.set_cons_succ]
              refine wpAnyH_take (i := 12) (v := .agg #[]) rfl (by kernel_rfl) (by kernel_rfl) (by kernel_rfl) (fun _ _ _ h => h) (Or.inl ⟨by rfl, fun w' hw' => ?yf12⟩) HH.out ?_
              case yf12 => exact exec_load 27 (.tmp 5) rfl rfl hw'.2.1 Try.underlying27 rfl HIR.out
              refine wpAnyH_take (i := 13) (v := .agg (bva k)) rfl (by kernel_rfl) (by kernel_rfl) (by kernel_rfl) (fun _ _ _ h => h) (Or.inl ⟨by rfl, fun w' hw' => ?yf13⟩) HH.out ?_
              case yf13 => exact exec_load 23 (.tmp 2) rfl rfl hw'.1 Try.underlying23 rfl HI.out
              try simp only [List.getElem_toArray, List.getElem_cons_succ, List.getElem_cons_zero, Act.put, List.setIfInBounds_toArray, List.set_cons_zero, List.set_cons_succ]
              refine wpAnyH_ready (rs := [11]) (by kernel_rfl) (by simp) (AllReadyH.cons rfl (fun K hK => ?_) AllReadyH.nil)
              go_simp
              refine (Ci.realpad_any k HK.out 1 _).mono ?_
              rintro e wp1 ⟨rfl, bw⟩
              rw [← HP.out]
              go_simp
              refine hK.out _ _ ⟨HH.out.1.below bw, HH.out.2.1.below bw, HH.out.2.2.1.below bw, HH.out.2.2.2.1.below bw, HH.out.2.2.2.2.1.below bw, HH.out.2.2.2.2.2.1.below bw, HH.out.2.2.2.2.2.2.1.below bw, HH.out.2.2.2.2.2.2.2.trans (bw.mono HH.out.2.2.2.2.2.2.2.size)⟩ (fun hh => ?_)
              have HH' := Lib.hid hh
              clear hh hK K HH bw
              have HH := Lib.hid HH'.out
              clear HH'
              try simp only [List.getElem_toArray, List.getElem_cons_succ, List.getElem_cons_zero, Act.put, List.setIfInBounds_toArray, List.set_cons_zero, List.set_cons_succ]
              refine wpAnyH_ready (rs := [14]) (by kernel_rfl) (by simp) (AllReadyH.cons rfl (fun K hK => ?_) AllReadyH.nil)
              go_simp
              refine (Ci.realpad_any k HK.out 1 _).mono ?_
              rintro e wp2 ⟨rfl, bw⟩
              rw [← HP.out]
              go_simp
              refine hK.out _ _ ⟨HH.out.1.below bw, HH.out.2.1.below bw, HH.out.2.2.1.below bw, HH.out.2.2.2.1.below bw, HH.out.2.2.2.2.1.below bw, HH.out.2.2.2.2.2.1.below bw, HH.out.2.2.2.2.2.2.1.below bw, HH.out.2.2.2.2.2.2.2.trans (bw.mono HH.out.2.2.2.2.2.2.2.size)⟩ (fun hh => ?_)
              have HH' := Lib.hid hh
              clear hh hK K HH bw
              have HH := Lib.hid HH'.out
              clear HH'
              try simp only [List.getElem_toArray, List.getElem_cons_succ, List.getElem_cons_zero, Act.put, List.setIfInBounds_toArray, List.set_cons_zero, List.set_cons_succ]
              refine wpAnyH_take (i := 15) (v := ?vf15) rfl (by kernel_rfl) (by kernel_rfl) (by kernel_rfl) (fun _ _ _ h => h) (Or.inl ⟨by rfl, fun w' _ => ?yf15⟩) HH.out ?_
              case yf15 => (go_simp; try with_reducible rfl)
              refine wpAnyH_take (i := 16) (v := ?vf16) rfl (by kernel_rfl) (by kernel_rfl) (by kernel_rfl) (fun _ _ _ h => h) (Or.inl ⟨by rfl, fun w' _ => ?yf16⟩) HH.out ?_
              case yf16 => (go_simp; try with_reducible rfl)
              try simp only [List.getElem_toArray, List.getElem_cons_succ, List.getElem_cons_zero, Act.put, List.setIfInBounds_toArray, List.set_cons_zero, List.set_cons_succ]
              refine wpAnyH_take (i := 17) (v := ?vf17) rfl (by kernel_rfl) (by kernel_rfl) (by kernel_rfl) (fun _ _ _ h => h) (Or.inl ⟨by rfl, fun w' _ => ?yf17⟩) HH.out ?_
              case yf17 => (go_simp; try with_reducible rfl)
              refine wpAnyH_take (i := 18) (v := .agg #[]) rfl (by kernel_rfl) (by kernel_rfl) (by kernel_rfl) (fun _ _ _ h => h) (Or.inl ⟨by rfl, fun w' hw' => ?yf18⟩) HH.out ?_
              case yf18 => exact exec_load 27 (.tmp 5) rfl rfl hw'.2.1 Try.underlying27 rfl HIR.out
              refine wpAnyH_take (i := 19) (v := .agg (bva k)) rfl (by kernel_rfl) (by kernel_rfl) (by kernel_rfl) (fun _ _ _ h => h) (Or.inl ⟨by rfl, fun w' hw' => ?yf19⟩) HH.out ?_
              case yf19 => exact exec_load 23 (.tmp 2) rfl rfl hw'.1 Try.underlying23 rfl HI.out
              try simp only [List.getElem_toArray, List.getElem_cons_succ, List.getElem_cons_zero, Act.put, List.setIfInBounds_toArray, List.set_cons_zero, List.set_cons_succ]
              refine wpAnyH_take (i := 20) (v := ?vf20) rfl (by kernel_rfl) (by kernel_rfl) (by kernel_rfl) (fun _ _ _ h => h) (Or.inl ⟨by rfl, fun w' _ => ?yf20⟩) HH.out ?_
              case yf20 => (go_simp; try with_reducible rfl)
              try simp only [List.getElem_toArray, List.getElem_cons_succ, List.getElem_cons_zero, Act.put, List.setIfInBounds_toArray, List.set_cons_zero, List.set_cons_succ]
              refine wpAnyH_take (i := 22) (v := ?vf22) rfl (by kernel_rfl) (by kernel_rfl) (by kernel_rfl) (fun _ _ _ h => h) (Or.inl ⟨by rfl, fun w' _ => ?yf22⟩) HH.out ?_
              case yf22 => (go_simp; try with_reducible rfl)
              try simp only [List.getElem_toArray, List.getElem_cons_succ, List.getElem_cons_zero, Act.put, List.setIfInBounds_toArray, List.set_cons_zero, List.set_cons_succ]
              refine wpAnyH_take (i := 23) (v := ?vf23) rfl (by kernel_rfl) (by kernel_rfl) (by kernel_rfl) (fun _ _ _ h => h) (Or.inl ⟨by rfl, fun w' _ => ?yf23⟩) HH.out ?_
              case yf23 => (go_simp; try with_reducible rfl)
              try simp only [List.getElem_toArray, List.getElem_cons_succ, List.getElem_cons_zero, Act.put, List.setIfInBounds_toArray, List.set_cons_zero, List.set_cons_succ]
              refine wpAnyH_take (i := 24) (v := .agg (bva sm)) rfl (by kernel_rfl) (by kernel_rfl) (by kernel_rfl) (fun _ _ _ h => h) (Or.inl ⟨by rfl, fun w' hw' => ?yf24⟩) HH.out ?_
              case yf24 => (rw [← HSO.out]; exact exec_load_mid 35 (.tmp 64) rfl zz 0 rfl (bv (o.take 16)) _ (front_range hw'.2.2.2.2.2.2.1 16) Try.underlying35 rfl HIS.out)
              try simp only [List.getElem_toArray, List.getElem_cons_succ, List.getElem_cons_zero, Act.put, List.setIfInBounds_toArray, List.set_cons_zero, List.set_cons_succ]
              refine wpAnyH_ready (rs := [21]) (by kernel_rfl) (by simp) (AllReadyH.cons rfl (fun K hK => ?_) AllReadyH.nil)
              go_simp
              refine (Ci.realsum_any k HK.out A n c l _ HL.out HC.out HM.out ((HR.out.below HH.out.2.2.2.2.2.2.2).more HH.out.2.2.2.2.2.2.2.size) (by omega)).mono ?_
              rintro e wp3 ⟨rfl, bw⟩
              rw [← HSM.out]
              go_simp
              refine hK.out _ _ ⟨HH.out.1.below bw, HH.out.2.1.below bw, HH.out.2.2.1.below bw, HH.out.2.2.2.1.below bw, HH.out.2.2.2.2.1.below bw, HH.out.2.2.2.2.2.1.below bw, HH.out.2.2.2.2.2.2.1.below bw, HH.out.2.2.2.2.2.2.2.trans (bw.mono HH.out.2.2.2.2.2.2.2.size)⟩ (fun hh => ?_)
              have HH' := Lib.hid hh
              clear hh hK K HH bw
              have HH := Lib.hid HH'.out
              clear HH'
              try simp only [List.getElem_toArray, List.getElem_cons_succ, List.getElem_cons_zero, Act.put, List.setIfInBounds_toArray, List.set_cons_zero, List.set_cons_succ]
              refine wpAnyH_take (i := 25) (v := ?vf25) rfl (by kernel_rfl) (by kernel_rfl) (by kernel_rfl) (fun _ _ _ h => h) (Or.inl ⟨by rfl, fun w' _ => ?yf25⟩) HH.out ?_
              case yf25 => (go_simp; try with_reducible rfl)
              try simp only [List.getElem_toArray, List.getElem_cons_succ, List.getElem_cons_zero, Act.put, List.setIfInBounds_toArray, List.set_cons_zero, List.set_cons_succ]
              refine wpAnyH_take (i := 26) (v := ?vf26) rfl (by kernel_rfl) (by kernel_rfl) (by kernel_rfl) (fun _ _ _ h => h) (Or.inl ⟨by rfl, fun w' _ => ?yf26⟩) HH.out ?_
              case yf26 => (go_simp; try with_reducible rfl)
              refine wpAnyH_take (i := 27) (v := ?vf27) rfl (by kernel_rfl) (by kernel_rfl) (by kernel_rfl) (fun _ _ _ h => h) (Or.inl ⟨by rfl, fun w' _ => ?yf27⟩) HH.out ?_
              case yf27 => (go_simp; try with_reducible rfl)
              try simp only [List.getElem_toArray, List.getElem_cons_succ, List.getElem_cons_zero, Act.put, List.setIfInBounds_toArray, List.set_cons_zero, List.set_cons_succ]
              refine wpAnyH_done (by kernel_rfl) ?_ _
              go_wp2_with fail
              go_ret
              exact ⟨rfl, HH.out.2.2.2.2.2.2.2⟩
  · have hn' : decide ((80 : Int) < (n : Int)) = true := by simp; omega
    go_enter Try.func7, Try.ntmps7
    go_wp2_with fail
    refine (Ci.ciAwake_any _).mono ?_
    rintro e w1 ⟨rfl, bw⟩
    have CB := Lib.hid (BB.out.trans (bw.mono BB.out.size))
    clear bw B1 BB
    go_wp2_with fail
    go_ret
    exact ⟨rfl, CB.out⟩
theorem cipherApart_own : ownKnob Try.prog.godebug = none := by kernel_rfl
theorem cipherApart_laid : laidOutB Try.prog = true := by kernel_rfl

set_option maxRecDepth 100000 in
theorem cipherApart_lifted (os : Os) (started : os.Started) (H : Type) (enc : TypeId × Value → H) :
    ReturnsInHanded {} Try.checked os 7 .any (Rows.cipherApartSpec.pre6 enc Try.prog Try.f7 Rows.cipherApartRow.domain false) (Rows.cipherApartSpec.post enc Try.prog Try.f7 false true false false) := by
  refine returnsInHanded_of_change (C := Try.checked) cipherApart_own started (by kernel_rfl) Try.func7
    (ChangeSpec.witness6 (enc := enc) (C := Try.checked) false ⟨#[], #[.agg #[.int .u8 0, .int .u8 0, .int .u8 0, .int .u8 0, .int .u8 0, .int .u8 0, .int .u8 0, .int .u8 0, .int .u8 0, .int .u8 0, .int .u8 0, .int .u8 0, .int .u8 0, .int .u8 0, .int .u8 0, .int .u8 0, .int .u8 0, .int .u8 0, .int .u8 0, .int .u8 0, .int .u8 0, .int .u8 0, .int .u8 0, .int .u8 0, .int .u8 0, .int .u8 0, .int .u8 0, .int .u8 0, .int .u8 0, .int .u8 0, .int .u8 0, .int .u8 0], .slice none 0 0], []⟩ 8 (by kernel_rfl) (by kernel_rfl) (by kernel_rfl) (by kernel_rfl)) ?_
  intro W base args ds gs before hval0 hW _ _
  have hval : ∀ (j : Nat) t v, Try.f7.params[j]? = some t → args[j]? = some v → Value.okWide Try.prog W .any base t v := hval0
  have hW' := hW
  obtain ⟨p, q, hA0, hV, rfl, hfz, hnd⟩ := hW
  have hA : DataW.TrodAll enc Try.prog W 0 (fun _ => true) true Try.f7.params.toList args.toList ds p := hA0
  rw [Try.params7] at hA hval
  obtain ⟨v0, vs0, d0, ds0, p0, q0, hargs, rfl, rfl, h0, r0⟩ := trodAll_cons hA
  obtain ⟨v1, vs1, d1, ds1, p1, q1, rfl, rfl, rfl, h1, r1⟩ := trodAll_cons r0
  obtain ⟨rfl, rfl, rfl⟩ := trodAll_nil r1
  obtain rfl : args = #[v0, v1] := by cases args; simp_all
  obtain ⟨rfl, rfl⟩ := trodVars_none hV
  have lt0 : ∀ x ∈ p0, x.block < W.heap.size := by obtain ⟨m, hm⟩ := h0; exact DataW.trod_lt m _ _ _ hm
  obtain ⟨l0, hl0, rfl⟩ := open_u8s Try.underlying23 Try.underlying5 (by kernel_rfl) (by kernel_rfl) (hval 0 23 v0 rfl rfl) h0
  obtain ⟨a1, n1, c1, rfl⟩ := okWide_slice Try.underlying33 (hval 1 33 v1 rfl rfl)
  have lt1 : ∀ x ∈ p1, x.block < W.heap.size := by obtain ⟨m, hm⟩ := h1; exact DataW.trod_lt m _ _ _ hm
  obtain ⟨l1, hl1, hc1, hm1, hr1⟩ := open_bytes Try.underlying33 Try.underlying5 (by kernel_rfl) h1
  clear hA0 hval0
  refine (cipherApart_any W l0 hl0 a1 n1 c1 l1 hl1 hc1 hm1 hr1).mono fun e W' ⟨he, bel⟩ => ?_
  subst he
  exact ⟨_, rfl, _, _, _, [], _, [], hW', trodAll_mk1 (shut_bool Try.underlying4 _), (trodAll_cons_mk (Below.trod cipherApart_laid (by kernel_rfl) (of_decide_eq_true (by kernel_rfl)) h0 bel lt0) (trodAll_cons_mk (Below.trod cipherApart_laid (by kernel_rfl) (of_decide_eq_true (by kernel_rfl)) h1 bel lt1) trodAll_mk0)), rfl, bel.frame _, fun h => by cases h⟩

theorem cipherApart_holds : Rows.CipherApartSaid :=
  OpenClaim.holds_of_wide 7 Try.f7 rfl rfl rfl rfl rfl rfl rfl ⟨rfl, rfl, rfl, rfl, rfl⟩ rfl rfl rfl rfl rfl (by kernel_rfl) Try.func7 (by kernel_rfl)
    (of_decide_eq_true (by kernel_rfl)) (by unfold Func.isWrapper; rw [if_neg (of_decide_eq_false (by kernel_rfl))]; exact ⟨rfl, rfl⟩)
    (fun os started H enc _ => cipherApart_lifted os started H enc)

#print axioms cipherApart_holds

end Go.Proofs.Ytobkkbpeoohfkaa
