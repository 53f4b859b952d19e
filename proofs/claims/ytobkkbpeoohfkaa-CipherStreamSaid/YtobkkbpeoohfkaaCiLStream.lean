/-
  CipherStream holds: of every key, number and bytes the law returns true, and its arguments read as they did.
-/
import Derived.Test.YtobkkbpeoohfkaaCiUseR
import Derived.Test.YtobkkbpeoohfkaaCiAwake
import Derived.Test.YtobkkbpeoohfkaaChStream
import Derived.Test.YtobkkbpeoohfkaaSame
import Derived.Test.YtobkkbpeoohfkaaOpen
import Derived.Test.YtobkkbpeoohfkaaOpenA
import Derived.ProofKit
import Derived.OpenShut
import Derived.ShutString
import Derived.ChangeOld
namespace Go.Proofs.Ytobkkbpeoohfkaa
open Go.RowKit Go.ChangeShapes Go.WideShapes Go.ChangeAt
attribute [local go_sem ↓] Go.wp_at_zero Go.wp_at_succ
theorem stream_front (k : List UInt8) (n m : Nat) (h : m ≤ 32) : streamI k n (m : Int) = (Ci.rpadL k n).take m := by
  by_cases h0 : m = 0
  · subst h0
    rw [streamI, if_neg (by omega), List.take_zero]
  · rw [streamI, if_pos (by omega), Int.toNat_natCast, streamL]
    apply List.ext_getElem?
    intro j
    by_cases hj : j < m
    · have hb : j < (blockL k 0 n).length := by rw [blockL_length]; omega
      rw [List.getElem?_map, List.getElem?_range hj, List.getElem?_take, if_pos hj, Ci.rpadL, List.getElem?_take, if_pos (by omega), Option.map_some, show j / 64 = 0 by omega, show j % 64 = j by omega, List.getElem?_eq_getElem hb, List.getD_eq_getElem?_getD]
      show some ((blockL k 0 n)[j]?.getD 0) = _
      rw [List.getElem?_eq_getElem hb]
      rfl
    · rw [List.getElem?_eq_none (by simp; omega), List.getElem?_eq_none (by simp; omega)]
theorem xorL_take {l p : List UInt8} {m : Nat} (h : l.length = m) : Wi.xorL l (p.take m) = Wi.xorL l p := by
  apply List.ext_getElem
  · rw [Wi.xorL_length, Wi.xorL_length, List.length_take]; omega
  · intro i h1 h2
    have := h1
    rw [Wi.xorL_length, List.length_take] at this
    rw [Wi.xorL_get h1 (by omega) (by rw [List.length_take]; omega), Wi.xorL_get h2 (by omega) (by omega), List.getElem_take]
set_option maxRecDepth 100000 in
set_option maxHeartbeats 3200000 in
theorem cipherStream_any (w : World) (k : List UInt8) (hk : k.length = 32) (n0 : Int) (hn0 : 0 ≤ n0 ∧ n0 ≤ 18446744073709551615) (A : Option Addr) (m c : Nat) (l : List UInt8) (hl : l.length = m) (_hc : m ≤ c) (_hm : c ≤ maxLen) (hr : Rd w.heap.size w A (bv l)) :
    Calls Try.prog 8 #[.agg (bva k), .int .u64 n0, .slice A m c] w (RetB (.bool true) w) := by
  obtain ⟨n, rfl⟩ := Int.eq_ofNat_of_zero_le hn0.1
  clear hn0
  have b1 : Blk (w.alloc (.cells (bva k) 23)) w.heap.size (bva k) 23 := heap_alloc_new _ _
  have hb : Below w.heap.size w (w.alloc (.cells (bva k) 23)) := (Below.refl _ _).alloc (Nat.le_refl _) _
  have HI : Hid ((Try.prog.info? 23).map (·.size) = some (bva k).size) := by rw [bva_size, hk]; exact Ci.info_key
  have HK := Lib.hid hk
  have HL := Lib.hid hl
  have HR := Lib.hid hr
  have B1 := Lib.hid b1
  have BB := Lib.hid hb
  clear b1 hb hk hl hr
  by_cases hs : m ≤ 32
  · have hd : decide ((32 : Int) < (m : Int)) = false := by simp; omega
    go_enter Try.func8, Try.ntmps8
    go_wp2_with fail
    refine (Ci.ciAwake_any _).mono ?_
    rintro e w1 ⟨rfl, bw⟩
    have C1 := Lib.hid (B1.out.below bw)
    have CB := Lib.hid (BB.out.trans (bw.mono BB.out.size))
    clear bw B1 BB
    go_wp2_with (refine wpList_load_row rfl 23 (.tmp 3) rfl w.heap.size rfl 23 (bva k) (0, 0) _ C1.out Try.underlying23 rfl HI.out ?_)
    refine (Ci.hide_real k n A m c l _ HK.out HL.out hs ((HR.out.below CB.out).more CB.out.size)).mono ?_
    rintro e w2 ⟨A1, n1, c1, rfl, ho1, bw⟩
    have hx : (Wi.xorL l (Ci.rpadL k n)).length = m := by rw [Wi.xorL_length, HL.out, Ci.rpadL_length]; omega
    have hn1 : m = n1 := by rw [← own_blen ho1, hx]
    obtain rfl : m = n1 := hn1
    have HX := Lib.hid hx
    have R1 := Lib.hid (Rd.own ho1)
    have N1 := Lib.hid (own_max ho1)
    have D1 := Lib.hid (C1.out.below bw)
    have DB := Lib.hid (CB.out.trans (bw.mono CB.out.size))
    clear ho1 bw C1 CB hx
    go_wp2_with (refine wpList_load_row rfl 23 (.tmp 3) rfl w.heap.size rfl 23 (bva k) (0, 0) _ D1.out Try.underlying23 rfl HI.out ?_)
    refine (stream_any k HK.out n (m : Int) _).mono ?_
    rintro e w3 ⟨A2, n2, c2, rfl, ho2, bw⟩
    rw [stream_front k n m hs] at ho2
    have hn2 : m = n2 := by rw [← own_blen ho2, List.length_take, Ci.rpadL_length]; omega
    obtain rfl : m = n2 := hn2
    have R2 := Lib.hid (Rd.own ho2)
    have E1 := Lib.hid ((R1.out.below bw).more bw.size)
    have EB := Lib.hid (DB.out.trans (bw.mono DB.out.size))
    clear ho2 bw R1 D1 DB
    go_wp2_with fail
    refine (Wi.wxor_any A A2 m m c c2 l ((Ci.rpadL k n).take m) _ HL.out (by rw [List.length_take, Ci.rpadL_length]; omega) EB.out.size (Nat.le_refl _) (HR.out.below EB.out) R2.out (by omega) (by omega)).mono ?_
    rintro e w4 ⟨A3, n3, c3, rfl, ho3, bw⟩
    rw [xorL_take HL.out] at ho3
    have hn3 : m = n3 := by rw [← own_blen ho3, HX.out]
    obtain rfl : m = n3 := hn3
    have R3 := Lib.hid (Rd.own ho3)
    have N3 := Lib.hid (own_max ho3)
    have F1 := Lib.hid ((E1.out.below bw).more bw.size)
    have FB := Lib.hid (EB.out.trans (bw.mono EB.out.size))
    clear ho3 bw R2 E1 EB
    go_wp2_with fail
    refine (same_r (b := true) (by rw [decide_eq_true rfl]) HX.out HX.out F1.out R3.out N1.out N3.out).mono ?_
    rintro e w5 ⟨rfl, bw⟩
    have GB := Lib.hid (FB.out.trans (bw.mono FB.out.size))
    clear bw FB F1 R3
    go_wp2_with fail
    go_ret
    exact ⟨rfl, GB.out⟩
  · have hd : decide ((32 : Int) < (m : Int)) = true := by simp; omega
    go_enter Try.func8, Try.ntmps8
    go_wp2_with fail
    refine (Ci.ciAwake_any _).mono ?_
    rintro e w1 ⟨rfl, bw⟩
    have CB := Lib.hid (BB.out.trans (bw.mono BB.out.size))
    clear bw B1 BB
    go_wp2_with fail
    go_ret
    exact ⟨rfl, CB.out⟩
theorem cipherStream_own : ownKnob Try.prog.godebug = none := by kernel_rfl
theorem cipherStream_laid : laidOutB Try.prog = true := by kernel_rfl

set_option maxRecDepth 100000 in
theorem cipherStream_lifted (os : Os) (started : os.Started) (H : Type) (enc : TypeId × Value → H) :
    ReturnsInHanded {} Try.checked os 8 .any (Rows.cipherStreamSpec.pre6 enc Try.prog Try.f8 Rows.cipherStreamRow.domain false) (Rows.cipherStreamSpec.post enc Try.prog Try.f8 false true false false) := by
  refine returnsInHanded_of_change (C := Try.checked) cipherStream_own started (by kernel_rfl) Try.func8
    (ChangeSpec.witness6 (enc := enc) (C := Try.checked) false ⟨#[], #[.agg #[.int .u8 0, .int .u8 0, .int .u8 0, .int .u8 0, .int .u8 0, .int .u8 0, .int .u8 0, .int .u8 0, .int .u8 0, .int .u8 0, .int .u8 0, .int .u8 0, .int .u8 0, .int .u8 0, .int .u8 0, .int .u8 0, .int .u8 0, .int .u8 0, .int .u8 0, .int .u8 0, .int .u8 0, .int .u8 0, .int .u8 0, .int .u8 0, .int .u8 0, .int .u8 0, .int .u8 0, .int .u8 0, .int .u8 0, .int .u8 0, .int .u8 0, .int .u8 0], .int .u64 0, .slice none 0 0], []⟩ 8 (by kernel_rfl) (by kernel_rfl) (by kernel_rfl) (by kernel_rfl)) ?_
  intro W base args ds gs before hval0 hW _ _
  have hval : ∀ (j : Nat) t v, Try.f8.params[j]? = some t → args[j]? = some v → Value.okWide Try.prog W .any base t v := hval0
  have hW' := hW
  obtain ⟨p, q, hA0, hV, rfl, hfz, hnd⟩ := hW
  have hA : DataW.TrodAll enc Try.prog W 0 (fun _ => true) true Try.f8.params.toList args.toList ds p := hA0
  rw [Try.params8] at hA hval
  obtain ⟨v0, vs0, d0, ds0, p0, q0, hargs, rfl, rfl, h0, r0⟩ := trodAll_cons hA
  obtain ⟨v1, vs1, d1, ds1, p1, q1, rfl, rfl, rfl, h1, r1⟩ := trodAll_cons r0
  obtain ⟨v2, vs2, d2, ds2, p2, q2, rfl, rfl, rfl, h2, r2⟩ := trodAll_cons r1
  obtain ⟨rfl, rfl, rfl⟩ := trodAll_nil r2
  obtain rfl : args = #[v0, v1, v2] := by cases args; simp_all
  obtain ⟨rfl, rfl⟩ := trodVars_none hV
  have lt0 : ∀ x ∈ p0, x.block < W.heap.size := by obtain ⟨m, hm⟩ := h0; exact DataW.trod_lt m _ _ _ hm
  obtain ⟨l0, hl0, rfl⟩ := open_u8s Try.underlying23 Try.underlying5 (by kernel_rfl) (by kernel_rfl) (hval 0 23 v0 rfl rfl) h0
  obtain ⟨a1, rfl, rfl, rfl, w1⟩ := open_int Try.underlying24 (hval 1 24 v1 rfl rfl) h1
  have b1 := bounds_u64 w1
  obtain ⟨a2, n2, c2, rfl⟩ := okWide_slice Try.underlying33 (hval 2 33 v2 rfl rfl)
  have lt2 : ∀ x ∈ p2, x.block < W.heap.size := by obtain ⟨m, hm⟩ := h2; exact DataW.trod_lt m _ _ _ hm
  obtain ⟨l2, hl2, hc2, hm2, hr2⟩ := open_bytes Try.underlying33 Try.underlying5 (by kernel_rfl) h2
  clear hA0 hval0
  refine (cipherStream_any W l0 hl0 a1 b1 a2 n2 c2 l2 hl2 hc2 hm2 hr2).mono fun e W' ⟨he, bel⟩ => ?_
  subst he
  exact ⟨_, rfl, _, _, _, [], _, [], hW', trodAll_mk1 (shut_bool Try.underlying4 _), (trodAll_cons_mk (Below.trod cipherStream_laid (by kernel_rfl) (of_decide_eq_true (by kernel_rfl)) h0 bel lt0) (trodAll_cons_mk (shut_int Try.underlying24 w1) (trodAll_cons_mk (Below.trod cipherStream_laid (by kernel_rfl) (of_decide_eq_true (by kernel_rfl)) h2 bel lt2) trodAll_mk0))), rfl, bel.frame _, fun h => by cases h⟩

theorem cipherStream_holds : Rows.CipherStreamSaid :=
  OpenClaim.holds_of_wide 8 Try.f8 rfl rfl rfl rfl rfl rfl rfl ⟨rfl, rfl, rfl, rfl, rfl⟩ rfl rfl rfl rfl rfl (by kernel_rfl) Try.func8 (by kernel_rfl)
    (of_decide_eq_true (by kernel_rfl)) (by unfold Func.isWrapper; rw [if_neg (of_decide_eq_false (by kernel_rfl))]; exact ⟨rfl, rfl⟩)
    (fun os started H enc _ => cipherStream_lifted os started H enc)

#print axioms cipherStream_holds

end Go.Proofs.Ytobkkbpeoohfkaa
