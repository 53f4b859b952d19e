/-
  Texts of this seat, one behind the other: KcPure, KgRef, KgMay, WiElt, KcREnc, KcRDec.
-/
import Derived.Test.YtippbjpodnnhiaaProg
import Derived.Test.YtippbjpodnnhiaaRows
import Derived.Deep.QuietTactic
import Derived.BigQuiet
import Derived.Test.YtippbjpodnnhiaaMg4
/-
  The bytes of nodes, and the nodes of bytes: no program.
-/
namespace Go.Proofs.Ytippbjpodnnhiaa.Kc
open Go.RowKit Kg
/-- The byte of a number. -/
def byteI (z : Int) : UInt8 := UInt8.ofNat z.toNat
theorem byteI_val {z : Int} (h0 : 0 ≤ z) (h1 : z < 256) : ((byteI z).toNat : Int) = z := by
  unfold byteI; rw [UInt8.toNat_ofNat']; omega
theorem byteI_of (b : UInt8) : byteI (b.toNat : Int) = b := by
  unfold byteI; simp
/-- A node's bytes. -/
def nodeY (x : Nd) : List UInt8 := byteI x.d :: byteI (x.a / 65536) :: byteI (x.a / 256 % 256) :: byteI (x.a % 256) :: x.s
theorem nodeY_length {x : Nd} (h : x.s.length = 32) : (nodeY x).length = 36 := by simp [nodeY, h]
def encN (l : List Nd) : List UInt8 := l.flatMap nodeY
theorem encN_nil : encN [] = [] := rfl
theorem encN_cons (x : Nd) (l : List Nd) : encN (x :: l) = nodeY x ++ encN l := by simp [encN]
theorem encN_append (a b : List Nd) : encN (a ++ b) = encN a ++ encN b := by simp [encN]
theorem encN_length : ∀ {l : List Nd}, (∀ x ∈ l, x.s.length = 32) → (encN l).length = 36 * l.length
  | [], _ => rfl
  | x :: l, h => by
    rw [encN_cons, List.length_append, nodeY_length (h x (by simp)), encN_length (fun y hy => h y (by simp [hy])), List.length_cons]; omega
theorem encN_snoc (l : List Nd) {k : Nat} (h : k < l.length) : encN (l.take (k + 1)) = encN (l.take k) ++ nodeY l[k] := by
  rw [List.take_succ_eq_append_getElem h, encN_append, encN_cons, encN_nil, List.append_nil]
/-- The bytes of nodes. -/
def encB (l : List Nd) : List UInt8 := byteI ((l.length : Int) / 256) :: byteI ((l.length : Int) % 256) :: encN l
theorem encB_length {l : List Nd} (h : ∀ x ∈ l, x.s.length = 32) : (encB l).length = 2 + 36 * l.length := by
  simp [encB, encN_length h]; omega
/-- A number of three bytes, the highest first. -/
def atY (a b c : UInt8) : Int := (a.toNat : Int) * 65536 + (b.toNat : Int) * 256 + (c.toNat : Int)
/-- The node of 36 bytes. -/
def ndY (b : List UInt8) : Nd := ⟨((b.getD 0 0).toNat : Int), atY (b.getD 1 0) (b.getD 2 0) (b.getD 3 0), (b.drop 4).take 32⟩
/-- The nodes of so many times 36 bytes. -/
def decN : Nat → List UInt8 → List Nd
  | 0, _ => []
  | n + 1, b => ndY b :: decN n (b.drop 36)
theorem decN_length : ∀ (n : Nat) (b : List UInt8), (decN n b).length = n
  | 0, _ => rfl
  | n + 1, b => by rw [decN, List.length_cons, decN_length n]
/-- What a node may have, to have bytes of its own. -/
def fits (x : Nd) : Prop := 0 ≤ x.d ∧ x.d < 256 ∧ 0 ≤ x.a ∧ x.a < 16777216 ∧ x.s.length = 32
theorem okH_fits {x : Nd} (h : okH x) : fits x := by
  have := h.many
  exact ⟨h.1, by have := h.2.1; omega, h.2.2.1, by have := h.2.2.2.2.1; omega, h.2.2.2.2.2⟩
theorem ndY_nodeY {x : Nd} (h : fits x) (r : List UInt8) : ndY (nodeY x ++ r) = x := by
  obtain ⟨h0, h1, h2, h3, h4⟩ := h
  have e0 : ((byteI x.d).toNat : Int) = x.d := byteI_val h0 h1
  have e1 : ((byteI (x.a / 65536)).toNat : Int) = x.a / 65536 := byteI_val (by omega) (by omega)
  have e2 : ((byteI (x.a / 256 % 256)).toNat : Int) = x.a / 256 % 256 := byteI_val (by omega) (by omega)
  have e3 : ((byteI (x.a % 256)).toNat : Int) = x.a % 256 := byteI_val (by omega) (by omega)
  have e4 : ((nodeY x ++ r).drop 4).take 32 = x.s := by
    simp only [nodeY, List.cons_append, List.drop_succ_cons, List.drop_zero]
    rw [← h4]; exact List.take_left' rfl
  have e5 : atY (byteI (x.a / 65536)) (byteI (x.a / 256 % 256)) (byteI (x.a % 256)) = x.a := by
    unfold atY; rw [e1, e2, e3]; omega
  unfold ndY
  rw [e4]
  simp only [nodeY, List.cons_append, List.getD_cons_zero, List.getD_cons_succ, e0, e5]
theorem ndY_fits {b : List UInt8} (h : 36 ≤ b.length) : fits (ndY b) := by
  have hb : ∀ x : UInt8, (x.toNat : Int) < 256 := fun x => by have := x.toNat_lt; omega
  refine ⟨by simp only [ndY]; omega, hb _, by simp only [ndY, atY]; omega, ?_, by simp only [ndY, List.length_take, List.length_drop]; omega⟩
  have h1 := hb (b.getD 1 0)
  have h2 := hb (b.getD 2 0)
  have h3 := hb (b.getD 3 0)
  simp only [ndY, atY]; omega
theorem nodeY_ndY {b : List UInt8} (h : 36 ≤ b.length) : nodeY (ndY b) = b.take 36 := by
  match b, h with
  | b0 :: b1 :: b2 :: b3 :: r, h =>
    have h1 : (b1.toNat : Int) < 256 := by have := b1.toNat_lt; omega
    have h2 : (b2.toNat : Int) < 256 := by have := b2.toNat_lt; omega
    have h3 : (b3.toNat : Int) < 256 := by have := b3.toNat_lt; omega
    have ea : atY b1 b2 b3 / 65536 = (b1.toNat : Int) := by unfold atY; omega
    have eb : atY b1 b2 b3 / 256 % 256 = (b2.toNat : Int) := by unfold atY; omega
    have ec : atY b1 b2 b3 % 256 = (b3.toNat : Int) := by unfold atY; omega
    unfold nodeY ndY
    simp only [List.getD_cons_zero, List.getD_cons_succ, List.drop_succ_cons, List.drop_zero, ea, eb, ec, byteI_of, List.take_succ_cons]
theorem decN_encN : ∀ {l : List Nd} (r : List UInt8), (∀ x ∈ l, fits x) → decN l.length (encN l ++ r) = l
  | [], _, _ => rfl
  | x :: l, r, h => by
    have hx := h x (by simp)
    have h36 := nodeY_length hx.2.2.2.2
    rw [List.length_cons, decN, encN_cons, List.append_assoc, ndY_nodeY hx, List.drop_left' h36, decN_encN r (fun y hy => h y (by simp [hy]))]
theorem decN_fits : ∀ (n : Nat) (b : List UInt8), b.length = 36 * n → ∀ x ∈ decN n b, fits x
  | 0, _, _, x, hx => by simp [decN] at hx
  | n + 1, b, h, x, hx => by
    rw [decN, List.mem_cons] at hx
    rcases hx with rfl | hx
    · exact ndY_fits (by omega)
    · exact decN_fits n (b.drop 36) (by rw [List.length_drop]; omega) x hx
theorem encN_decN : ∀ (n : Nat) (b : List UInt8), b.length = 36 * n → encN (decN n b) = b
  | 0, b, h => by
    have : b = [] := List.eq_nil_of_length_eq_zero (by omega)
    rw [this]; rfl
  | n + 1, b, h => by
    rw [decN, encN_cons, nodeY_ndY (by omega), encN_decN n (b.drop 36) (by rw [List.length_drop]; omega), List.take_append_drop]
theorem encN_inj {a b : List Nd} (ha : ∀ x ∈ a, fits x) (hb : ∀ x ∈ b, fits x) (h : encN a = encN b) : a = b := by
  have h1 := encN_length (fun x hx => (ha x hx).2.2.2.2)
  have h2 := encN_length (fun x hx => (hb x hx).2.2.2.2)
  have hl : a.length = b.length := by rw [h] at h1; omega
  have e1 := decN_encN [] ha
  have e2 := decN_encN [] hb
  rw [← e1, ← e2, h, hl]
theorem encB_inj {a b : List Nd} (ha : ∀ x ∈ a, fits x) (hb : ∀ x ∈ b, fits x) (h : encB a = encB b) : a = b := by
  unfold encB at h
  injection h with _ h
  injection h with _ h
  exact encN_inj ha hb h
/-- How many nodes the first two bytes tell. -/
def manyY (b : List UInt8) : Nat := (b.getD 0 0).toNat * 256 + (b.getD 1 0).toNat
/-- Are these the bytes of nodes that may be held? -/
def okY (b : List UInt8) : Prop := 2 ≤ b.length ∧ b.length = 2 + 36 * manyY b ∧ okS 0 (decN (manyY b) (b.drop 2))
theorem okS_fits {l : List Nd} (h : okS 0 l) : ∀ x ∈ l, fits x := fun x hx => okH_fits (okS_mem h x hx).1
theorem manyY_encB {l : List Nd} (h : l.length ≤ 65535) : manyY (encB l) = l.length := by
  have e0 : ((byteI ((l.length : Int) / 256)).toNat : Int) = (l.length : Int) / 256 := byteI_val (by omega) (by omega)
  have e1 : ((byteI ((l.length : Int) % 256)).toNat : Int) = (l.length : Int) % 256 := byteI_val (by omega) (by omega)
  unfold manyY encB
  simp only [List.getD_cons_zero, List.getD_cons_succ]
  omega
theorem encB_drop (l : List Nd) : (encB l).drop 2 = encN l := rfl
theorem dec_encB {l : List Nd} (h : okS 0 l) (hl : l.length ≤ 65535) : okY (encB l) ∧ decN (manyY (encB l)) ((encB l).drop 2) = l := by
  have hf := okS_fits h
  have e := decN_encN [] hf
  rw [List.append_nil] at e
  have e2 : decN (manyY (encB l)) ((encB l).drop 2) = l := by rw [manyY_encB hl, encB_drop, e]
  exact ⟨⟨by simp [encB], by rw [manyY_encB hl]; exact encB_length (fun x hx => (hf x hx).2.2.2.2), by rw [e2]; exact h⟩, e2⟩
/-- One spelling: bytes that are some nodes' are what those nodes come to. -/
theorem enc_decB {b : List UInt8} (h : okY b) : encB (decN (manyY b) (b.drop 2)) = b ∧ (decN (manyY b) (b.drop 2)).length ≤ 65535 := by
  obtain ⟨h1, h2, _⟩ := h
  obtain ⟨b0, b1, r, rfl⟩ : ∃ b0 b1 r, b = b0 :: b1 :: r := by
    cases b with
    | nil => simp at h1
    | cons b0 r => cases r with
      | nil => simp at h1
      | cons b1 r => exact ⟨b0, b1, r, rfl⟩
  have hm : manyY (b0 :: b1 :: r) = b0.toNat * 256 + b1.toNat := by simp [manyY]
  have l0 := b0.toNat_lt
  have l1 := b1.toNat_lt
  have hr : r.length = 36 * manyY (b0 :: b1 :: r) := by
    rw [List.length_cons, List.length_cons] at h2; omega
  refine ⟨?_, by rw [decN_length, hm]; omega⟩
  have hd : (b0 :: b1 :: r).drop 2 = r := by simp
  unfold encB
  rw [decN_length, hd, encN_decN _ _ hr, hm]
  have ea : ((b0.toNat * 256 + b1.toNat : Nat) : Int) / 256 = (b0.toNat : Int) := by omega
  have eb : ((b0.toNat * 256 + b1.toNat : Nat) : Int) % 256 = (b1.toNat : Int) := by omega
  rw [ea, eb, byteI_of, byteI_of]
end Go.Proofs.Ytippbjpodnnhiaa.Kc
/-
  The reference's Many; its nodes.
-/
namespace Go.Proofs.Ytippbjpodnnhiaa.Kg
open Go.RowKit
attribute [local go_sem ↓] Go.wp_at_zero Go.wp_at_succ
set_option maxHeartbeats 400000 in
theorem many_any (d : Int) (hd : -9223372036854775808 ≤ d) (w : World) : Calls Try.prog 45 #[.int .i64 d] w (fun e w' => e = .returned (.int .u64 (manyI d)) ∧ w = w') := by
  go_enter Try.func45, Try.ntmps45
  go_wp2
  go_loop [3, 4] (fun n i => ∃ j : Nat, n = .int .u64 (IntKind.u64.wrap (2 ^ j)) ∧ i = .int .i64 (d + j) ∧ (d + j ≤ 17 ∨ j = 0)) (fun _ i => (17 - intOf i).toNat)
  case atStart => exact ⟨0, rfl, by simp, .inr rfl⟩
  case round =>
    obtain ⟨j, rfl, rfl, hj⟩ := hrel
    by_cases hlt : d + (j : Int) < 17
    · have hw : IntKind.i64.wrap (d + (j : Int) + 1) = d + ((j + 1 : Nat) : Int) := by rw [IntWalk.i64_in _ (by omega)]; omega
      have h17 : decide (d + (j : Int) < 17) = true := by simp; omega
      have hdj : -9223372036854775808 ≤ d + (j : Int) := by omega
      go_wp2
      go_round
      case rel => exact ⟨j + 1, int_eq (wrap_dbl j), int_eq (by omega), .inl (by omega)⟩
      case measure => simp [intOf]; omega
    · have h17 : decide (d + (j : Int) < 17) = false := by simp; omega
      have he : IntKind.u64.wrap (2 ^ j) = manyI d := by
        unfold manyI
        split
        · rename_i h; obtain rfl : j = 0 := by omega
          rfl
        · rename_i h; rw [show (17 - d).toNat = j by omega]
      go_wp2
      go_ret
      exact ⟨rfl, rfl⟩
theorem many_q (d : Int) (hd : -9223372036854775808 ≤ d) (w : World) : Calls Try.prog 45 #[.int .i64 d] w (RetQ (.int .u64 (manyI d)) w) :=
  (many_any d hd w).mono fun _ _ ⟨he, hw⟩ => ⟨he, 0, hw.symm⟩
theorem info_node : (Try.prog.info? 41).map (·.size) = some 34 := by kernel_rfl
set_option maxRecDepth 100000 in
theorem build_node (x : Nd) (hs : x.s.length = 32) (W : World) :
    (Instr.build 41 #[(0, .int .i64 x.d), (1, .int .u64 x.a), (2, .agg (bva x.s))]).run Try.prog W = .ok (.agg (ndC x)) W := by
  have e : Try.prog.built 41 [(0, .int .i64 x.d), (1, .int .u64 x.a), (2, .agg (bva x.s))] = Instr.fill places3 (ndC zeroNd) [(0, .int .i64 x.d), (1, .int .u64 x.a), (2, .agg (bva x.s))] := by kernel_rfl
  refine run_build W 41 _ _ ?_
  show Try.prog.built 41 [(0, .int .i64 x.d), (1, .int .u64 x.a), (2, .agg (bva x.s))] = _
  rw [e]
  have s0 : (ndC zeroNd).size = 34 := ndC_size rfl
  have c1 : (Value.int .i64 x.d).cells = #[Value.int .i64 x.d] := rfl
  have c2 : (Value.int .u64 x.a).cells = #[Value.int .u64 x.a] := rfl
  have c3 : (Value.agg (bva x.s)).cells = bva x.s := rfl
  have l3 : (bva x.s).toList.length = 32 := by rw [Array.length_toList, bva_size, hs]
  obtain ⟨z1, f1⟩ := Great.foldl_set 0 [Value.int .i64 x.d] 0 (ndC zeroNd)
  generalize hA : ([Value.int .i64 x.d].zipIdx 0).foldl (fun cs (x : Value × Nat) => cs.setIfInBounds (0 + x.2) x.1) (ndC zeroNd) = A at z1 f1
  obtain ⟨z2, f2⟩ := Great.foldl_set 1 [Value.int .u64 x.a] 0 A
  generalize hB : ([Value.int .u64 x.a].zipIdx 0).foldl (fun cs (x : Value × Nat) => cs.setIfInBounds (1 + x.2) x.1) A = B at z2 f2
  obtain ⟨z3, f3⟩ := Great.foldl_set 2 (bva x.s).toList 0 B
  generalize hC : ((bva x.s).toList.zipIdx 0).foldl (fun cs (x : Value × Nat) => cs.setIfInBounds (2 + x.2) x.1) B = C at z3 f3
  rw [fill_step places3 (off := 0) (size := 1) rfl _ (by rw [c1]; rfl) _ (by rw [s0]; omega), c1, hA,
    fill_step places3 (off := 1) (size := 1) rfl _ (by rw [c2]; rfl) _ (by rw [z1, s0]; omega), c2, hB,
    fill_step places3 (off := 2) (size := 32) rfl _ (by rw [c3, bva_size, hs]) _ (by rw [z2, z1, s0]; omega), c3, hC, Instr.fill]
  congr 1
  have hL : ∀ i : Nat, (ndC x)[i]? = (Value.int .i64 x.d :: Value.int .u64 x.a :: bv x.s)[i]? := fun i => by rw [ndC, List.getElem?_toArray]; rfl
  apply Array.ext_getElem?
  intro j
  rw [f3 j, f2 j, f1 j, z2, z1, s0, l3, hL]
  match j with
  | 0 => simp
  | 1 => simp
  | j + 2 =>
    by_cases h3 : j < 32
    · rw [if_pos (by omega), List.getElem?_cons_succ, List.getElem?_cons_succ]
      simp [bva]
    · rw [if_neg (by omega), if_neg (by simp; omega), if_neg (by simp), List.getElem?_eq_none (by simp [bv_length, hs]; omega)]
      exact Array.getElem?_eq_none (by rw [s0]; omega)
theorem info_nodeW : (Try.prog.info? 41).map (fun i => (i.zero, i.size, i.bytes)) = some (some (.agg (ndC zeroNd)), 34, 48) := by kernel_rfl
theorem nodesElt : EltN Try.prog 30 41 (.agg (ndC zeroNd)) 34 48 := ⟨Try.underlying30, info_nodeW, ndC_size rfl, by omega, by omega⟩
end Go.Proofs.Ytippbjpodnnhiaa.Kg
/-
  The contract of the reference's May: may nodes be held?
-/
namespace Go.Proofs.Ytippbjpodnnhiaa.Kg
open Go.RowKit
attribute [local go_sem ↓] Go.wp_at_zero Go.wp_at_succ
set_option maxRecDepth 100000 in
set_option maxHeartbeats 3200000 in
theorem may_any {B : Nat} (A : Option Addr) (n c : Nat) (l : List Nd) (w : World) (hl : l.length = n) (h3 : ∀ x ∈ l, x.s.length = 32) (hb : ∀ x ∈ l, -9223372036854775808 ≤ x.d ∧ 0 ≤ x.a) (hB : B ≤ w.heap.size) (hr : Rd B w A (nvs l)) (hn : n ≤ 1000000) :
    Calls Try.prog 30 #[.slice A n c] w (fun e w' => ∃ b, e = .returned (.bool b) ∧ (b = true ↔ okS 0 l) ∧ Below w.heap.size w w') := by
  have HL := Lib.hid hl
  have HR := Lib.hid (hr.more hB)
  have H3 := Lib.hid h3
  have HB0 := Lib.hid hb
  clear hl hr h3 hB hb
  go_enter Try.func30, Try.ntmps30
  go_wp2_with fail
  go_loopw [3, 4, 5] (fun o i _ wr => ∃ k : Nat, k ≤ n ∧ i = .int .i64 k ∧ o = .int .u64 (endL 0 (l.take k)) ∧ Hid (okS 0 (l.take k)) ∧ Below w.heap.size w wr) (fun _ i _ _ => n - (intOf i).toNat)
  case atStart => exact ⟨0, by omega, rfl, rfl, trivial, Below.refl _ _⟩
  case round =>
    obtain ⟨k, hk, rfl, rfl, HOK, hbw⟩ := hrel
    by_cases hlt : k < n
    · have hkl : k < l.length := by rw [HL.out]; exact hlt
      have hrd := HR.out
      obtain ⟨ad, hA, hbl, _⟩ := rd_node HR.out H3.out hkl
      subst hA
      obtain ⟨x, hxe⟩ : ∃ x, x = l[k] := ⟨_, rfl⟩
      have hxm : x ∈ l := by rw [hxe]; exact List.getElem_mem hkl
      have hs : x.s.length = 32 := H3.out x hxm
      have hxb := HB0.out x hxm
      have hnot := okS_not_next hkl
      have hsn : l.take (k + 1) = l.take k ++ [x] := by rw [hxe]; exact List.take_succ_eq_append_getElem hkl
      rw [← hxe] at hnot
      have hcell : ∀ w', Below w.heap.size w w' → ∀ j v, (ndV x)[j]? = some v → w'.cell? ((ad.add (k * 34)).add j) = some v := fun w' hb' j v hv => by
        obtain ⟨ad', hA', _, hc⟩ := rd_node (hrd.below hb') H3.out hkl
        injection hA' with hA'
        subst hA'
        exact hc j v (by rw [← hxe]; exact hv)
      have L0 := Lib.hid (show ∀ w', Below w.heap.size w w' → w'.cell? (ad.add (k * 34)) = some (.int .i64 x.d) from fun w' hb' => by have h := hcell w' hb' 0 _ rfl; rwa [add_zero] at h)
      have L1 := Lib.hid (show ∀ w', Below w.heap.size w w' → w'.cell? ⟨(ad.add (k * 34)).block, (ad.add (k * 34)).off + 1, none⟩ = some (.int .u64 x.a) from fun w' hb' => hcell w' hb' 1 _ rfl)
      obtain ⟨C, hC⟩ : ∃ C, C = endL 0 (l.take k) := ⟨_, rfl⟩
      have hCb := endL_bd HOK.out (by omega)
      rw [← hC] at hnot hCb ⊢
      have hnb := nodeB_iff hxb.2 hs
      have k0 : (0 : Int) ≤ (k : Int) := by omega
      have k1 : (k : Int) < (n : Int) := by omega
      have ek : IntKind.i64.wrap ((k : Int) + 1) = ((k + 1 : Nat) : Int) := by rw [IntWalk.i64_in _ (by omega)]; omega
      have HB := Lib.hid hbw
      have HNB := Lib.hid hnb
      have HNT := Lib.hid (show ¬ (nodeB x = true ∧ C ≤ x.a) → ¬ okS 0 l from fun h => hnot (fun h' => h ⟨hnb.2 h'.1, h'.2⟩))
      have HSN := Lib.hid hsn
      have HCC := Lib.hid hC
      have HXB := Lib.hid hxb
      have c0 := L0.out _ HB.out
      have c1 := L1.out _ HB.out
      clear hcell hrd hxe hxm hs hsn hbw hnot hnb hC hxb hbl
      by_cases h0 : x.d < 0
      · have d0 : decide (x.d < 0) = true := decide_eq_true h0
        have HNO := Lib.hid (HNT.out (by rintro ⟨h, _⟩; have := (HNB.out.1 h).1; omega))
        clear h0
        go_wp2_with fail
        go_ret
        exact ⟨false, rfl, ⟨(fun h => by cases h), fun h => absurd h HNO.out⟩, HB.out⟩
      · have d0 : decide (x.d < 0) = false := decide_eq_false h0
        by_cases h1 : x.d > 17
        · have d1 : decide (x.d > 17) = true := decide_eq_true h1
          have HNO := Lib.hid (HNT.out (by rintro ⟨h, _⟩; have := (HNB.out.1 h).2.1; omega))
          clear h0 h1
          go_wp2_with fail
          go_ret
          exact ⟨false, rfl, ⟨(fun h => by cases h), fun h => absurd h HNO.out⟩, HB.out⟩
        · have d1 : decide (x.d > 17) = false := decide_eq_false h1
          obtain ⟨M, hM⟩ : ∃ M, M = manyI x.d := ⟨_, rfl⟩
          have hm := (manyI_ok (d := x.d) (by omega) (by omega)).2
          rw [← hM] at hm
          have hMz : (M == 0) = false := by simp; omega
          obtain ⟨r, hr⟩ : ∃ r, x.a.tmod M = r := ⟨_, rfl⟩
          have hr' : r = x.a % manyI x.d := by rw [← hr, hM]; exact Int.tmod_eq_emod_of_nonneg HXB.out.2
          have HR' := Lib.hid hr'
          have HMV := Lib.hid hM
          have HMP := Lib.hid (show ∀ W, Calls Try.prog 45 #[.int .i64 x.d] W (fun e w' => e = .returned (.int .u64 M) ∧ W = w') from fun W => by rw [hM]; exact many_any x.d (by omega) W)
          have HM0 := Lib.hid (show ∀ W, Calls Try.prog 45 #[.int .i64 0] W (RetQ (.int .u64 131072) W) from fun W => many_q 0 (by omega) W)
          have H01 := Lib.hid (show 0 ≤ x.d ∧ x.d ≤ 17 from ⟨by omega, by omega⟩)
          clear hM hr' h0 h1
          by_cases h2 : r = 0
          · have d2 : (r != 0) = false := by simp [h2]
            by_cases h3 : x.a ≥ 131072
            · have d3 : decide (x.a ≥ 131072) = true := decide_eq_true h3
              have HNO := Lib.hid (HNT.out (by rintro ⟨h, _⟩; have h5 := (HNB.out.1 h); have := h5.2.2.2.2.1; have := h5.many; omega))
              clear h2 h3
              go_wp2_with fail
              refine (HMP.out _).mono ?_
              rintro e w2 ⟨rfl, rfl⟩
              go_wp2_with fail
              go_quiet ((go_at_call 45; exact RetQ.quiet (HM0.out _)))
              go_wp2_with fail
              go_ret
              exact ⟨false, rfl, ⟨(fun h => by cases h), fun h => absurd h HNO.out⟩, below_drewN' HB.out _⟩
            · have d3 : decide (x.a ≥ 131072) = false := decide_eq_false h3
              by_cases h4 : x.a < C
              · have d4 : decide (x.a < C) = true := decide_eq_true h4
                have HNO := Lib.hid (HNT.out (by rintro ⟨_, h⟩; omega))
                clear h2 h3 h4
                go_wp2_with fail
                refine (HMP.out _).mono ?_
                rintro e w2 ⟨rfl, rfl⟩
                go_wp2_with fail
                go_quiet ((go_at_call 45; exact RetQ.quiet (HM0.out _)))
                go_wp2_with fail
                go_ret
                exact ⟨false, rfl, ⟨(fun h => by cases h), fun h => absurd h HNO.out⟩, below_drewN' HB.out _⟩
              · have d4 : decide (x.a < C) = false := decide_eq_false h4
                have hnb : nodeB x = true := by
                  rw [nodeB, decide_eq_true H01.out.1, decide_eq_true H01.out.2, decide_eq_true (show x.a < 131072 by omega), ← HR'.out, decide_eq_true h2]; rfl
                have hox := HNB.out.1 hnb
                have hx5 := hox.2.2.2.2.1
                rw [← HMV.out] at hx5
                have ea : IntKind.u64.wrap (x.a + M) = x.a + M := IntWalk.u64_in _ (by have := HXB.out; omega)
                have HOK2 := Lib.hid (show okS 0 (l.take (k + 1)) by rw [HSN.out, okS_snoc]; exact ⟨HOK.out, hox, by rw [← HCC.out]; omega⟩)
                have HEN := Lib.hid (show endL 0 (l.take (k + 1)) = x.a + M by rw [HSN.out, endL_snoc, HMV.out])
                clear h2 h3 h4 hnb hox hx5
                go_wp2_with fail
                refine (HMP.out _).mono ?_
                rintro e w2 ⟨rfl, rfl⟩
                go_wp2_with fail
                go_quiet ((go_at_call 45; exact RetQ.quiet (HM0.out _)))
                rename_i nq
                have bq := below_drewN' HB.out nq
                have c0' := L0.out _ bq
                have c1' := L1.out _ bq
                go_wp2_with fail
                go_roundw
                case rel => exact ⟨k + 1, by omega, by go_num, by rw [HEN.out], HOK2, below_drewN' HB.out _⟩
                case measure => simp [intOf]; omega
          · have d2 : (r != 0) = true := by simp [h2]
            have HNO := Lib.hid (HNT.out (by rintro ⟨h, _⟩; exact h2 (by rw [HR'.out]; exact (HNB.out.1 h).2.2.2.1)))
            clear h2
            go_wp2_with fail
            refine (HMP.out _).mono ?_
            rintro e w2 ⟨rfl, rfl⟩
            go_wp2_with fail
            go_quiet ((go_at_call 45; exact RetQ.quiet (HM0.out _)))
            go_wp2_with fail
            go_ret
            exact ⟨false, rfl, ⟨(fun h => by cases h), fun h => absurd h HNO.out⟩, below_drewN' HB.out _⟩
    · obtain rfl : k = n := by omega
      have hok : okS 0 l := by have := HOK.out; rwa [List.take_of_length_le (by rw [HL.out]; exact Nat.le_refl _)] at this
      have HK := Lib.hid hok
      clear hok
      go_wp2
      go_ret
      exact ⟨true, rfl, ⟨fun _ => HK.out, fun _ => rfl⟩, hbw⟩
end Go.Proofs.Ytippbjpodnnhiaa.Kg
/-
  Bytes as a slice's elements, in the namespace of wire's texts.
-/
namespace Go.Proofs.Ytippbjpodnnhiaa.Wi
open Go.RowKit
theorem info_byte : (Try.prog.info? 5).map (fun i => (i.zero, i.size, i.bytes)) = some (some (.int .u8 0), 1, 1) := by kernel_rfl
theorem bytesElt : Elt Try.prog 24 5 (.int .u8 0) 1 := ⟨Try.underlying24, by kernel_rfl, rfl, by omega⟩
theorem bv_replicate (n : Nat) : bv (List.replicate n 0) = List.replicate n (.int .u8 0) := by simp [bv]
end Go.Proofs.Ytippbjpodnnhiaa.Wi
/-
  The contract of the reference's Encode: the bytes of nodes, or that there are none.
-/
namespace Go.Proofs.Ytippbjpodnnhiaa.Kc
open Go.RowKit Kg
attribute [local go_sem ↓] Go.wp_at_zero Go.wp_at_succ
/-- What Encode tells. -/
def RetEnc (l : List Nd) (w : World) (e : Ending) (w' : World) : Prop :=
  Below w.heap.size w w' ∧ (((okS 0 l ∧ l.length ≤ 65535) ∧ ∃ A m c, e = .returned (.tuple #[.slice A m c, .bool true]) ∧ w'.ownsRow w.heap.size 5 1 (.slice A m c) m (bv (encB l))) ∨
    (¬ (okS 0 l ∧ l.length ≤ 65535) ∧ e = .returned (.tuple #[.slice none 0 0, .bool false])))
def hdrY (n : Nat) : List UInt8 := [byteI ((n : Int) / 256), byteI ((n : Int) % 256)]
theorem encB_hdr (l : List Nd) : encB l = hdrY l.length ++ encN l := rfl
def fourY (x : Nd) : List UInt8 := [byteI x.d, byteI (x.a / 65536), byteI (x.a / 256 % 256), byteI (x.a % 256)]
theorem nodeY_four (x : Nd) : nodeY x = fourY x ++ x.s := rfl
theorem u8_byteI {z : Int} (h0 : 0 ≤ z) (h1 : z < 256) : Value.int .u8 z = .int .u8 ((byteI z).toNat : Int) := by rw [byteI_val h0 h1]
theorem hdr_cells {n : Nat} (h : n ≤ 65535) : [Value.int .u8 ((n : Int) / 256 % 256), .int .u8 ((n : Int) % 256)] = bv (hdrY n) := by
  have e : (n : Int) / 256 % 256 = (n : Int) / 256 := by omega
  rw [e, u8_byteI (show 0 ≤ (n : Int) / 256 by omega) (by omega), u8_byteI (show 0 ≤ (n : Int) % 256 by omega) (by omega)]; rfl
theorem four_cells {x : Nd} (h : fits x) : [Value.int .u8 (x.d % 256), .int .u8 (x.a / 65536), .int .u8 (x.a / 256 % 256), .int .u8 (x.a % 256)] = bv (fourY x) := by
  obtain ⟨h0, h1, h2, h3, _⟩ := h
  have e : x.d % 256 = x.d := by omega
  rw [e, u8_byteI h0 h1, u8_byteI (show 0 ≤ x.a / 65536 by omega) (by omega), u8_byteI (show 0 ≤ x.a / 256 % 256 by omega) (by omega), u8_byteI (show 0 ≤ x.a % 256 by omega) (by omega)]; rfl
theorem addr_add (b o q : Nat) : (⟨b, o, none⟩ : Addr).add q = ⟨b, o + q, none⟩ := by unfold Addr.add; split <;> simp_all
set_option maxRecDepth 100000 in
set_option maxHeartbeats 3200000 in
theorem renc_any {B : Nat} (A : Option Addr) (n c : Nat) (l : List Nd) (w : World) (hl : l.length = n) (h3 : ∀ x ∈ l, x.s.length = 32) (hb : ∀ x ∈ l, -9223372036854775808 ≤ x.d ∧ 0 ≤ x.a) (hB : B ≤ w.heap.size) (hr : Rd B w A (nvs l)) (hn : n ≤ 1000000) :
    Calls Try.prog 14 #[.slice A n c] w (RetEnc l w) := by
  have HMAY := may_any A n c l w hl h3 hb hB hr hn
  have HL := Lib.hid hl
  have HR := Lib.hid (hr.more hB)
  have H3 := Lib.hid h3
  clear hl hr h3 hB hb
  go_enter Try.func14, Try.ntmps14
  go_wp2_with fail
  refine HMAY.mono ?_
  rintro e w2 ⟨b, rfl, hb, bw⟩
  clear HMAY
  by_cases hok : okS 0 l
  · have hbt : b = true := hb.2 hok
    subst hbt
    by_cases h6 : (n : Int) > 65535
    · have d6 : decide ((n : Int) > 65535) = true := decide_eq_true h6
      have HNO := Lib.hid (show ¬ (okS 0 l ∧ l.length ≤ 65535) from fun h => by have := h.2; rw [HL.out] at this; omega)
      clear h6 hok hb
      go_wp2_with fail
      go_ret2
      exact ⟨bw, .inr ⟨HNO.out, rfl⟩⟩
    · have d6 : decide ((n : Int) > 65535) = false := decide_eq_false h6
      have HOK := Lib.hid (show okS 0 l ∧ l.length ≤ 65535 from ⟨hok, by rw [HL.out]; omega⟩)
      clear h6 hok hb
      have HF := Lib.hid (okS_fits HOK.out.1)
      go_wp2_with fail
      go_loopw [4, 5, 6, 7] (fun o i _ _ wr => ∃ k m1 A1 c1, k ≤ n ∧ m1 = 2 + 36 * k ∧ i = .int .i64 (k : Nat) ∧ o = .slice A1 m1 c1 ∧ Below w.heap.size w wr ∧ wr.ownsRow w.heap.size 5 1 (.slice A1 m1 c1) m1 (bv (hdrY n ++ encN (l.take k)))) (fun _ i _ _ _ => n - (intOf i).toNat)
      case atStart =>
        refine ⟨0, 2, _, 2, by omega, rfl, rfl, rfl, bw.alloc bw.size _, ?_⟩
        have h := World.ownsRow_lit (base := w.heap.size) (size := 1) (e := 5) w2 #[Value.int .u8 ((n : Int) / 256 % 256), .int .u8 ((n : Int) % 256)] 2 bw.size (by unfold maxLen; omega) rfl
        refine own_eq h rfl ?_
        show [Value.int .u8 ((n : Int) / 256 % 256), .int .u8 ((n : Int) % 256)] = _
        rw [hdr_cells (by have := HOK.out.2; rw [HL.out] at this; exact this), List.take_zero, encN_nil, List.append_nil]
      case round =>
        obtain ⟨k, m1, A1, c1, hk, hm1, rfl, rfl, hbw, how⟩ := hrel
        by_cases hlt : k < n
        · have hkl : k < l.length := by rw [HL.out]; exact hlt
          have hrd := HR.out
          obtain ⟨ad, hA, hbl, _⟩ := rd_node HR.out H3.out hkl
          subst hA
          obtain ⟨x, hxe⟩ : ∃ x, x = l[k] := ⟨_, rfl⟩
          have hs : x.s.length = 32 := by rw [hxe]; exact H3.out _ (List.getElem_mem hkl)
          have hfit : fits x := by rw [hxe]; exact HF.out _ (List.getElem_mem hkl)
          have hsn : encN (l.take (k + 1)) = encN (l.take k) ++ nodeY x := by rw [hxe]; exact encN_snoc l hkl
          have hcell : ∀ w', Below w.heap.size w w' → ∀ j v, (ndV x)[j]? = some v → w'.cell? ((ad.add (k * 34)).add j) = some v := fun w' hb' j v hv => by
            obtain ⟨ad', hA', _, hc⟩ := rd_node (hrd.below hb') H3.out hkl
            injection hA' with hA'
            subst hA'
            exact hc j v (by rw [← hxe]; exact hv)
          have L0 := Lib.hid (show ∀ w', Below w.heap.size w w' → w'.cell? (ad.add (k * 34)) = some (.int .i64 x.d) from fun w' hb' => by have h := hcell w' hb' 0 _ rfl; rwa [add_zero] at h)
          have L1 := Lib.hid (show ∀ w', Below w.heap.size w w' → w'.cell? ⟨(ad.add (k * 34)).block, (ad.add (k * 34)).off + 1, none⟩ = some (.int .u64 x.a) from fun w' hb' => hcell w' hb' 1 _ rfl)
          have L2 := Lib.hid (show ∀ w', Below w.heap.size w w' → ∀ j v, (bv x.s)[j]? = some v → w'.cell? ((⟨(ad.add (k * 34)).block, (ad.add (k * 34)).off + 2, none⟩ : Addr).add j) = some v from fun w' hb' j v hv => by
            have h := hcell w' hb' (2 + j) v (by rw [ndV, show 2 + j = j + 1 + 1 by omega, List.getElem?_cons_succ, List.getElem?_cons_succ]; exact hv)
            rw [← add_twice] at h
            exact h)
          have k0 : (0 : Int) ≤ (k : Int) := by omega
          have k1 : (k : Int) < (n : Int) := by omega
          have xa0 : 0 ≤ x.a := hfit.2.2.1
          have ek : IntKind.i64.wrap ((k : Int) + 1) = ((k + 1 : Nat) : Int) := by rw [IntWalk.i64_in _ (by omega)]; omega
          have HFX := Lib.hid hfit
          have HS := Lib.hid hs
          have HSN := Lib.hid hsn
          have HB := Lib.hid hbw
          have HO := Lib.hid how
          have c0 := L0.out _ hbw
          have c1' := L1.out _ hbw
          have xa1 : x.a < 16777216 := hfit.2.2.2.1
          have q1 : x.a.tdiv 65536 = x.a / 65536 := Int.tdiv_eq_ediv_of_nonneg xa0
          have q2 : x.a.tdiv 256 = x.a / 256 := Int.tdiv_eq_ediv_of_nonneg xa0
          have q3 : IntKind.u64.wrap (x.a / 65536) = x.a / 65536 := IntWalk.u64_in _ (by omega)
          have q4 : IntKind.u64.wrap (x.a / 256) = x.a / 256 := IntWalk.u64_in _ (by omega)
          have q5 : (x.a / 256).tmod 256 = x.a / 256 % 256 := Int.tmod_eq_emod_of_nonneg (by omega)
          have hm2 : m1 + 4 ≤ 3000000 := by have := HOK.out.2; rw [HL.out] at this; omega
          clear hcell hrd hxe hs hsn hbw how hfit hbl
          go_wp2_with (at_builtin
                       refine wpList_app _ rfl (.tmp 36) (.tmp 53) _ rfl Wi.bytesElt (base := w.heap.size) (v := .slice A1 m1 c1) rfl (own_below HO.out ((Below.refl _ _).alloc (Nat.le_refl _) _)) (m := 4) rfl (Rd.own (World.ownsRow_lit (base := wr.heap.size) wr _ 4 (Nat.le_refl _) (by unfold maxLen; omega) rfl)) rfl (by intro u hu; simp at hu; rcases hu with rfl | rfl | rfl | rfl <;> rfl) ?_ ?_ ?_
                       · omega
                       · simp; have := HB.out.size; omega
                       intro A3 c3 w3 ho3 hg3 _
                       have hb3 := app_below (HB.out.alloc HB.out.size _) (own_below HO.out ((Below.refl _ _).alloc (Nat.le_refl _) _)) hg3 (Nat.le_refl _) (by simp; have := HB.out.size; omega)
                       have O3 := Lib.hid ho3
                       have B3 := Lib.hid hb3
                       clear ho3 hg3 hb3 HO HB)
          have HO4 := Lib.hid (own_eq (xs' := bv (hdrY n ++ encN (l.take k) ++ fourY x)) O3.out rfl (by
            show _ ++ [Value.int .u8 (x.d % 256), .int .u8 (x.a / 65536), .int .u8 (x.a / 256 % 256), .int .u8 (x.a % 256)] = _
            rw [four_cells HFX.out, ← bv_append]))
          have HB4 := Lib.hid B3.out
          clear O3 B3
          go_loopw [4, 7] (fun o j wr => ∃ q m2 A2 c2, q ≤ 32 ∧ m2 = 2 + 36 * k + 4 + q ∧ j = .int .i64 (q : Nat) ∧ o = .slice A2 m2 c2 ∧ Below w.heap.size w wr ∧ wr.ownsRow w.heap.size 5 1 (.slice A2 m2 c2) m2 (bv (hdrY n ++ encN (l.take k) ++ (fourY x ++ x.s.take q)))) (fun _ j _ => 32 - (intOf j).toNat)
          case atStart => exact ⟨0, _, A3, c3, by omega, rfl, rfl, slice_eq (by omega), HB4.out, by rw [List.take_zero, List.append_nil]; exact own_eq HO4.out (by omega) rfl⟩
          case round =>
            clear HO4 HB4
            obtain ⟨q, m2, A2, c2, hq, hm2', rfl, rfl, hbw, how⟩ := hrel
            by_cases hq1 : q < 32
            · obtain ⟨y, hst, hyv⟩ : ∃ y : UInt8, x.s.take (q + 1) = x.s.take q ++ [y] ∧ (bv x.s)[q]? = some (.int .u8 (y.toNat : Int)) := by
                have hqs : q < x.s.length := by rw [HS.out]; exact hq1
                exact ⟨x.s[q], List.take_succ_eq_append_getElem hqs, bv_get hqs⟩
              have cc := L2.out _ hbw q _ hyv
              rw [addr_add] at cc
              have HST := Lib.hid hst
              have q0 : (0 : Int) ≤ (q : Int) := by omega
              have q32 : (q : Int) < 32 := by omega
              have HB := Lib.hid hbw
              have HO := Lib.hid how
              clear hst hyv hbw how
              go_wp2_with (at_builtin
                           refine wpList_app _ rfl (.tmp 59) (.tmp 67) _ rfl Wi.bytesElt (base := w.heap.size) (v := .slice A2 m2 c2) rfl (own_below HO.out ((Below.refl _ _).alloc (Nat.le_refl _) _)) (m := 1) rfl (Rd.own (World.ownsRow_lit (base := wr.heap.size) wr _ 1 (Nat.le_refl _) (by unfold maxLen; omega) rfl)) rfl (by intro u hu; simp at hu; rcases hu with rfl; rfl) ?_ ?_ ?_
                           · omega
                           · simp; have := HB.out.size; omega
                           intro A4 c4 w4 ho4 hg4 _
                           have hb4 := app_below (HB.out.alloc HB.out.size _) (own_below HO.out ((Below.refl _ _).alloc (Nat.le_refl _) _)) hg4 (Nat.le_refl _) (by simp; have := HB.out.size; omega)
                           have O4 := Lib.hid ho4
                           have B4 := Lib.hid hb4
                           clear ho4 hg4 hb4 HO HB)
              go_roundw
              case rel =>
                refine ⟨q + 1, m2 + 1, A4, c4, by omega, by omega, by go_num, slice_eq (by omega), B4.out, own_eq O4.out rfl ?_⟩
                show bv (hdrY n ++ encN (l.take k) ++ (fourY x ++ x.s.take q)) ++ bv [y] = _
                rw [HST.out, ← bv_append]; congr 1; simp only [List.append_assoc]
              case measure => simp [intOf]; omega
            · obtain rfl : q = 32 := by omega
              rw [show x.s.take 32 = x.s from List.take_of_length_le (by rw [HS.out]; exact Nat.le_refl _), ← nodeY_four, List.append_assoc, ← HSN.out] at how
              have HB := Lib.hid hbw
              have HO := Lib.hid how
              clear hbw how
              go_wp2_with fail
              go_roundw
              case rel => exact ⟨k + 1, _, A2, c2, by omega, rfl, by go_num, slice_eq (by omega), HB.out, own_eq HO.out (by omega) rfl⟩
              case measure => simp [intOf]; omega
        · obtain rfl : k = n := by omega
          rw [List.take_of_length_le (by rw [HL.out]; exact Nat.le_refl _)] at how
          have HB := Lib.hid hbw
          have HO := Lib.hid how
          clear hbw how
          go_wp2_with fail
          go_ret2
          exact ⟨HB.out, .inl ⟨HOK.out, A1, m1, c1, rfl, by rw [encB_hdr, HL.out]; exact HO.out⟩⟩
  · have hbf : b = false := by cases b; rfl; exact absurd (hb.1 rfl) hok
    subst hbf
    have HNO := Lib.hid (show ¬ (okS 0 l ∧ l.length ≤ 65535) from fun h => hok h.1)
    clear hok hb
    go_wp2_with fail
    go_ret2
    exact ⟨bw, .inr ⟨HNO.out, rfl⟩⟩
end Go.Proofs.Ytippbjpodnnhiaa.Kc
/-
  The contract of the reference's Decode: the nodes of bytes, or that they are none's.
-/
namespace Go.Proofs.Ytippbjpodnnhiaa.Kc
open Go.RowKit Kg
attribute [local go_sem ↓] Go.wp_at_zero Go.wp_at_succ
/-- What Decode tells. -/
def RetDec (b : List UInt8) (w : World) (e : Ending) (w' : World) : Prop :=
  Below w.heap.size w w' ∧ ((okY b ∧ ∃ A m c, e = .returned (.tuple #[.slice A m c, .bool true]) ∧ w'.ownsRow w.heap.size 41 34 (.slice A m c) m (nvs (decN (manyY b) (b.drop 2)))) ∨
    (¬ okY b ∧ e = .returned (.tuple #[.slice none 0 0, .bool false])))
theorem build_node2 (d a : Int) (W : World) : (Instr.build 41 #[(0, .int .i64 d), (1, .int .u64 a)]).run Try.prog W = .ok (.agg (ndC ⟨d, a, List.replicate 32 0⟩)) W := by kernel_rfl
theorem Blk.setN {w : World} {g : Nat} {cs : Array Value} {A : TypeId} (h : Blk w g cs A) (k : Nat) (v : Value) : Blk (w.setCell ⟨g, k, none⟩ v) g (cs.setIfInBounds k v) A := heap_setCell_same _ _ _ _ _ _ h
theorem nd_set (d a : Int) (s : List UInt8) (q : Nat) (y : UInt8) : (ndC ⟨d, a, s⟩).setIfInBounds (2 + q) (.int .u8 (y.toNat : Int)) = ndC ⟨d, a, s.set q y⟩ := by
  simp only [ndC, List.setIfInBounds_toArray, ndV, show 2 + q = q + 1 + 1 by omega, List.set_cons_succ, bv, List.map_set]
/-- A seed of which the first bytes are laid. -/
def sd (s : List UInt8) (q : Nat) : List UInt8 := s.take q ++ List.replicate (32 - q) 0
theorem sd_length {s : List UInt8} (hs : s.length = 32) {q : Nat} (hq : q ≤ 32) : (sd s q).length = 32 := by
  rw [sd, List.length_append, List.length_take, List.length_replicate]; omega
theorem sd_set {s : List UInt8} {q : Nat} {y : UInt8} (hs : s.length = 32) (hq : q < 32) (hy : s[q]? = some y) : (sd s q).set q y = sd s (q + 1) := by
  have hl : (s.take q).length = q := by rw [List.length_take]; omega
  have ht : s.take (q + 1) = s.take q ++ [y] := by rw [List.take_add_one, hy]; rfl
  rw [sd, sd, List.set_append_right _ _ (by omega), hl, Nat.sub_self, show 32 - q = (32 - (q + 1)) + 1 by omega, List.replicate_succ, List.set_cons_zero, ht, List.append_assoc]
  rfl
theorem sd_all {s : List UInt8} (hs : s.length = 32) : sd s 32 = s := by rw [sd, List.take_of_length_le (by omega)]; simp
theorem decN_get : ∀ (n : Nat) (b : List UInt8) {k : Nat}, k < n → (decN n b)[k]? = some (ndY (b.drop (36 * k)))
  | n + 1, b, 0, _ => by rw [decN]; simp
  | n + 1, b, k + 1, h => by
    rw [decN, List.getElem?_cons_succ, decN_get n (b.drop 36) (by omega), List.drop_drop]
    congr 3; omega
set_option maxRecDepth 100000 in
set_option maxHeartbeats 3200000 in
theorem rdec_any {B : Nat} (A : Option Addr) (n c : Nat) (b : List UInt8) (w : World) (hl : b.length = n) (hB : B ≤ w.heap.size) (hr : Rd B w A (bv b)) (hn : n ≤ 3000000) :
    Calls Try.prog 18 #[.slice A n c] w (RetDec b w) := by
  have HL := Lib.hid hl
  have HR := Lib.hid (hr.more hB)
  clear hr hB
  by_cases h2 : n < 2
  · have d2 : decide ((n : Int) < 2) = true := by simp; omega
    have HNO := Lib.hid (show ¬ okY b from fun h => by have := h.1; omega)
    clear hl h2
    go_enter Try.func18, Try.ntmps18
    go_wp2_with fail
    refine wp_region_held_drew (S := fun w' => Below w.heap.size w w') (by kernel_rfl) (Below.refl w.heap.size w).drew (fun hh => ?_)
    have HH := Lib.hid hh
    clear hh
    refine wpAnyH_take (i := 0) (v := ?va0) rfl (by kernel_rfl) (by kernel_rfl) (by kernel_rfl) (fun _ _ _ h => h) (Or.inl ⟨by rfl, fun w' _ => ?ya0⟩) HH.out ?_
    case ya0 => (go_simp; try with_reducible rfl)
    refine wpAnyH_take (i := 1) (v := ?va1) rfl (by kernel_rfl) (by kernel_rfl) (by kernel_rfl) (fun _ _ _ h => h) (Or.inl ⟨by rfl, fun w' _ => ?ya1⟩) HH.out ?_
    case ya1 => (go_simp; try with_reducible rfl)
    try simp only [List.getElem_toArray, List.getElem_cons_succ, List.getElem_cons_zero, Act.put, List.setIfInBounds_toArray, List.set_cons_zero, List.set_cons_succ]
    refine wpAnyH_take (i := 2) (v := ?va2) rfl (by kernel_rfl) (by kernel_rfl) (by kernel_rfl) (fun _ _ _ h => h) (Or.inl ⟨by rfl, fun w' _ => ?ya2⟩) HH.out ?_
    case ya2 => (go_simp; try with_reducible rfl)
    refine wpAnyH_take (i := 3) (v := ?va3) rfl (by kernel_rfl) (by kernel_rfl) (by kernel_rfl) (fun _ _ _ h => h) (Or.inl ⟨by rfl, fun w' _ => ?ya3⟩) HH.out ?_
    case ya3 => (go_simp; try with_reducible rfl)
    refine wpAnyH_take (i := 4) (v := undef) rfl (by kernel_rfl) (by kernel_rfl) (by kernel_rfl) (fun _ _ _ h => h) (Or.inr ⟨by rfl, rfl⟩) HH.out ?_
    try simp only [List.getElem_toArray, List.getElem_cons_succ, List.getElem_cons_zero, Act.put, List.setIfInBounds_toArray, List.set_cons_zero, List.set_cons_succ]
    refine wpAnyH_take (i := 5) (v := undef) rfl (by kernel_rfl) (by kernel_rfl) (by kernel_rfl) (fun _ _ _ h => h) (Or.inr ⟨by rfl, rfl⟩) HH.out ?_
    refine wpAnyH_take (i := 6) (v := undef) rfl (by kernel_rfl) (by kernel_rfl) (by kernel_rfl) (fun _ _ _ h => h) (Or.inr ⟨by rfl, rfl⟩) HH.out ?_
    refine wpAnyH_take (i := 7) (v := undef) rfl (by kernel_rfl) (by kernel_rfl) (by kernel_rfl) (fun _ _ _ h => h) (Or.inr ⟨by rfl, rfl⟩) HH.out ?_
    try simp only [List.getElem_toArray, List.getElem_cons_succ, List.getElem_cons_zero, Act.put, List.setIfInBounds_toArray, List.set_cons_zero, List.set_cons_succ]
    refine wpAnyH_take (i := 8) (v := undef) rfl (by kernel_rfl) (by kernel_rfl) (by kernel_rfl) (fun _ _ _ h => h) (Or.inr ⟨by rfl, rfl⟩) HH.out ?_
    refine wpAnyH_take (i := 9) (v := undef) rfl (by kernel_rfl) (by kernel_rfl) (by kernel_rfl) (fun _ _ _ h => h) (Or.inr ⟨by rfl, rfl⟩) HH.out ?_
    refine wpAnyH_take (i := 10) (v := undef) rfl (by kernel_rfl) (by kernel_rfl) (by kernel_rfl) (fun _ _ _ h => h) (Or.inr ⟨by rfl, rfl⟩) HH.out ?_
    try simp only [List.getElem_toArray, List.getElem_cons_succ, List.getElem_cons_zero, Act.put, List.setIfInBounds_toArray, List.set_cons_zero, List.set_cons_succ]
    refine wpAnyH_take (i := 11) (v := undef) rfl (by kernel_rfl) (by kernel_rfl) (by kernel_rfl) (fun _ _ _ h => h) (Or.inr ⟨by rfl, rfl⟩) HH.out ?_
    refine wpAnyH_take (i := 12) (v := undef) rfl (by kernel_rfl) (by kernel_rfl) (by kernel_rfl) (fun _ _ _ h => h) (Or.inr ⟨by rfl, rfl⟩) HH.out ?_
    refine wpAnyH_take (i := 13) (v := undef) rfl (by kernel_rfl) (by kernel_rfl) (by kernel_rfl) (fun _ _ _ h => h) (Or.inr ⟨by rfl, rfl⟩) HH.out ?_
    try simp only [List.getElem_toArray, List.getElem_cons_succ, List.getElem_cons_zero, Act.put, List.setIfInBounds_toArray, List.set_cons_zero, List.set_cons_succ]
    refine wpAnyH_take (i := 14) (v := undef) rfl (by kernel_rfl) (by kernel_rfl) (by kernel_rfl) (fun _ _ _ h => h) (Or.inr ⟨by rfl, rfl⟩) HH.out ?_
    refine wpAnyH_take (i := 15) (v := undef) rfl (by kernel_rfl) (by kernel_rfl) (by kernel_rfl) (fun _ _ _ h => h) (Or.inr ⟨by rfl, rfl⟩) HH.out ?_
    refine wpAnyH_take (i := 16) (v := undef) rfl (by kernel_rfl) (by kernel_rfl) (by kernel_rfl) (fun _ _ _ h => h) (Or.inr ⟨by rfl, rfl⟩) HH.out ?_
    try simp only [List.getElem_toArray, List.getElem_cons_succ, List.getElem_cons_zero, Act.put, List.setIfInBounds_toArray, List.set_cons_zero, List.set_cons_succ]
    refine wpAnyH_take (i := 17) (v := undef) rfl (by kernel_rfl) (by kernel_rfl) (by kernel_rfl) (fun _ _ _ h => h) (Or.inr ⟨by rfl, rfl⟩) HH.out ?_
    refine wpAnyH_take (i := 18) (v := undef) rfl (by kernel_rfl) (by kernel_rfl) (by kernel_rfl) (fun _ _ _ h => h) (Or.inr ⟨by rfl, rfl⟩) HH.out ?_
    refine wpAnyH_take (i := 19) (v := ?va19) rfl (by kernel_rfl) (by kernel_rfl) (by kernel_rfl) (fun _ _ _ h => h) (Or.inl ⟨by rfl, fun w' _ => ?ya19⟩) HH.out ?_
    case ya19 => (go_simp; try with_reducible rfl)
    try simp only [List.getElem_toArray, List.getElem_cons_succ, List.getElem_cons_zero, Act.put, List.setIfInBounds_toArray, List.set_cons_zero, List.set_cons_succ]
    refine wpAnyH_done (by kernel_rfl) ?_ _
    go_wp2_with fail
    go_ret2
    exact ⟨HH.out, .inr ⟨HNO.out, rfl⟩⟩
  · have d2 : decide ((n : Int) < 2) = false := by simp; omega
    obtain ⟨b0, b1, r, hbe⟩ : ∃ b0 b1 r, b = b0 :: b1 :: r := by
      cases b with
      | nil => simp at hl; omega
      | cons b0 r => cases r with
        | nil => simp at hl; omega
        | cons b1 r => exact ⟨b0, b1, r, rfl⟩
    have hm : manyY b = b0.toNat * 256 + b1.toNat := by rw [hbe]; simp [manyY]
    have l0 := b0.toNat_lt
    have l1 := b1.toNat_lt
    have hA : ∃ ad, A = some ad := by
      obtain ⟨ad, hA, _⟩ := HR.out 0 _ (bv_get (show 0 < b.length by omega))
      exact ⟨ad, hA⟩
    obtain ⟨ad, rfl⟩ := hA
    have L0 := Lib.hid (show ∀ w', Below w.heap.size w w' → w'.cell? ad = some (.int .u8 (b0.toNat : Int)) from fun w' hb' => by
      obtain ⟨ad', hA', _, hc⟩ := (HR.out.below hb') 0 (.int .u8 (b0.toNat : Int)) (by rw [hbe]; rfl)
      injection hA' with hA'; subst hA'; rwa [add_zero] at hc)
    have L1 := Lib.hid (show ∀ w', Below w.heap.size w w' → w'.cell? ⟨ad.block, ad.off + 1, none⟩ = some (.int .u8 (b1.toNat : Int)) from fun w' hb' => by
      obtain ⟨ad', hA', _, hc⟩ := (HR.out.below hb') 1 (.int .u8 (b1.toNat : Int)) (by rw [hbe]; rfl)
      injection hA' with hA'; subst hA'
      have e : ad.add 1 = ⟨ad.block, ad.off + 1, none⟩ := by simp [Addr.add]
      rwa [e] at hc)
    have n1 : (0 : Int) < (n : Int) := by omega
    have n2 : (1 : Int) < (n : Int) := by omega
    have n1' : 0 < n := by omega
    have n2' : 1 < n := by omega
    have m0 : (0 : Int) ≤ (b0.toNat : Int) := by omega
    have m1 : (b0.toNat : Int) < 256 := by omega
    have m2 : (0 : Int) ≤ (b1.toNat : Int) := by omega
    have m3 : (b1.toNat : Int) < 256 := by omega
    have w1 : IntKind.i64.wrap (b0.toNat : Int) = (b0.toNat : Int) := IntWalk.i64_in _ (by omega)
    have w2 : IntKind.i64.wrap ((b0.toNat : Int) * 256) = (b0.toNat : Int) * 256 := IntWalk.i64_in _ (by omega)
    have w3 : IntKind.i64.wrap (b1.toNat : Int) = (b1.toNat : Int) := IntWalk.i64_in _ (by omega)
    have w4 : IntKind.i64.wrap ((b0.toNat : Int) * 256 + (b1.toNat : Int)) = (b0.toNat : Int) * 256 + (b1.toNat : Int) := IntWalk.i64_in _ (by omega)
    have w5 : IntKind.i64.wrap (36 * ((b0.toNat : Int) * 256 + (b1.toNat : Int))) = 36 * ((b0.toNat : Int) * 256 + (b1.toNat : Int)) := IntWalk.i64_in _ (by omega)
    have w6 : IntKind.i64.wrap (2 + 36 * ((b0.toNat : Int) * 256 + (b1.toNat : Int))) = 2 + 36 * ((b0.toNat : Int) * 256 + (b1.toNat : Int)) := IntWalk.i64_in _ (by omega)
    have HM := Lib.hid hm
    have HBE := Lib.hid hbe
    by_cases hne : (n : Int) = 2 + 36 * ((b0.toNat : Int) * 256 + (b1.toNat : Int))
    · have dn : ((n : Int) != 2 + 36 * ((b0.toNat : Int) * 256 + (b1.toNat : Int))) = false := by simp [hne]
      have hK : n = 2 + 36 * manyY b := by rw [hm]; omega
      have hK6 : manyY b ≤ 65535 := by rw [hm]; omega
      obtain ⟨K, hKe⟩ : ∃ K, K = manyY b := ⟨_, rfl⟩
      rw [← hKe] at hK hK6
      obtain ⟨D, hD⟩ : ∃ D, D = decN K (b.drop 2) := ⟨_, rfl⟩
      have HDL := Lib.hid (show D.length = K by rw [hD, decN_length])
      have HDF := Lib.hid (show ∀ x ∈ D, fits x by rw [hD]; exact decN_fits K _ (by rw [List.length_drop, HL.out]; omega))
      have HDG := Lib.hid (show ∀ k, k < K → D[k]? = some (ndY (b.drop (2 + 36 * k))) from fun k hk => by rw [hD, decN_get K _ hk, List.drop_drop])
      have HOKY := Lib.hid (show okY b ↔ okS 0 D from ⟨fun h => by rw [hD, hKe]; exact h.2.2, fun h => ⟨by rw [HL.out]; omega, by rw [HL.out, ← hKe]; exact hK, by rw [← hKe, ← hD]; exact h⟩⟩)
      have HDD := Lib.hid (show D = decN (manyY b) (b.drop 2) by rw [hD, hKe])
      have HK := Lib.hid hK
      obtain ⟨ie, hie, hz0, hz1, hz2⟩ := info_parts info_nodeW
      obtain ⟨cz, hcz⟩ : ∃ cz, cz = ndC zeroNd := ⟨_, rfl⟩
      have hzn : ∀ W, (zeroValue 41).run Try.prog W = .ok (.agg cz) W := fun _ => by rw [hcz]; kernel_rfl
      have ZN : Hid (cz.size = 34) := by show _ = _; rw [hcz]; exact ndC_size rfl
      clear hl h2 hm hbe hne hK hKe hD hcz
      go_enter Try.func18, Try.ntmps18
      go_wp2_with fail
      refine wp_region_held_drew (S := fun w' => Below w.heap.size w w') (by kernel_rfl) (Below.refl w.heap.size w).drew (fun hh => ?_)
      have HH := Lib.hid hh
      clear hh
      refine wpAnyH_take (i := 0) (v := ?vb0) rfl (by kernel_rfl) (by kernel_rfl) (by kernel_rfl) (fun _ _ _ h => h) (Or.inl ⟨by rfl, fun w' _ => ?yb0⟩) HH.out ?_
      case yb0 => (go_simp; try with_reducible rfl)
      refine wpAnyH_take (i := 1) (v := ?vb1) rfl (by kernel_rfl) (by kernel_rfl) (by kernel_rfl) (fun _ _ _ h => h) (Or.inl ⟨by rfl, fun w' _ => ?yb1⟩) HH.out ?_
      case yb1 => (go_simp; try with_reducible rfl)
      try simp only [List.getElem_toArray, List.getElem_cons_succ, List.getElem_cons_zero, Act.put, List.setIfInBounds_toArray, List.set_cons_zero, List.set_cons_succ]
      refine wpAnyH_take (i := 2) (v := ?vb2) rfl (by kernel_rfl) (by kernel_rfl) (by kernel_rfl) (fun _ _ _ h => h) (Or.inl ⟨by rfl, fun w' _ => ?yb2⟩) HH.out ?_
      case yb2 => (go_simp; try with_reducible rfl)
      refine wpAnyH_take (i := 3) (v := ?vb3) rfl (by kernel_rfl) (by kernel_rfl) (by kernel_rfl) (fun _ _ _ h => h) (Or.inl ⟨by rfl, fun w' _ => ?yb3⟩) HH.out ?_
      case yb3 => (go_simp; try with_reducible rfl)
      try simp only [List.getElem_toArray, List.getElem_cons_succ, List.getElem_cons_zero, Act.put, List.setIfInBounds_toArray, List.set_cons_zero, List.set_cons_succ]
      refine wpAnyH_take (i := 4) (v := ?vb4) rfl (by kernel_rfl) (by kernel_rfl) (by kernel_rfl) (fun _ _ _ h => h) (Or.inl ⟨by rfl, fun w' _ => ?yb4⟩) HH.out ?_
      case yb4 => (go_simp; try with_reducible rfl)
      try simp only [List.getElem_toArray, List.getElem_cons_succ, List.getElem_cons_zero, Act.put, List.setIfInBounds_toArray, List.set_cons_zero, List.set_cons_succ]
      refine wpAnyH_take (i := 5) (v := ?vb5) rfl (by kernel_rfl) (by kernel_rfl) (by kernel_rfl) (fun _ _ _ h => h) (Or.inl ⟨by rfl, fun w' _ => ?yb5⟩) HH.out ?_
      case yb5 => (go_simp; try with_reducible rfl)
      try simp only [List.getElem_toArray, List.getElem_cons_succ, List.getElem_cons_zero, Act.put, List.setIfInBounds_toArray, List.set_cons_zero, List.set_cons_succ]
      refine wpAnyH_take (i := 6) (v := ?vb6) rfl (by kernel_rfl) (by kernel_rfl) (by kernel_rfl) (fun _ _ _ h => h) (Or.inl ⟨by rfl, fun w' _ => ?yb6⟩) HH.out ?_
      case yb6 => (go_simp; try with_reducible rfl)
      try simp only [List.getElem_toArray, List.getElem_cons_succ, List.getElem_cons_zero, Act.put, List.setIfInBounds_toArray, List.set_cons_zero, List.set_cons_succ]
      refine wpAnyH_take (i := 7) (v := ?vb7) rfl (by kernel_rfl) (by kernel_rfl) (by kernel_rfl) (fun _ _ _ h => h) (Or.inl ⟨by rfl, fun w' _ => ?yb7⟩) HH.out ?_
      case yb7 => (go_simp; try with_reducible rfl)
      try simp only [List.getElem_toArray, List.getElem_cons_succ, List.getElem_cons_zero, Act.put, List.setIfInBounds_toArray, List.set_cons_zero, List.set_cons_succ]
      refine wpAnyH_take (i := 8) (v := ?vb8) rfl (by kernel_rfl) (by kernel_rfl) (by kernel_rfl) (fun _ _ _ h => h) (Or.inl ⟨by rfl, fun w' hw' => ?yb8⟩) HH.out ?_
      case yb8 => (have cc := L0.out w' hw'; go_simp; try with_reducible rfl)
      try simp only [List.getElem_toArray, List.getElem_cons_succ, List.getElem_cons_zero, Act.put, List.setIfInBounds_toArray, List.set_cons_zero, List.set_cons_succ]
      refine wpAnyH_take (i := 9) (v := ?vb9) rfl (by kernel_rfl) (by kernel_rfl) (by kernel_rfl) (fun _ _ _ h => h) (Or.inl ⟨by rfl, fun w' _ => ?yb9⟩) HH.out ?_
      case yb9 => (go_simp; try with_reducible rfl)
      try simp only [List.getElem_toArray, List.getElem_cons_succ, List.getElem_cons_zero, Act.put, List.setIfInBounds_toArray, List.set_cons_zero, List.set_cons_succ]
      refine wpAnyH_take (i := 10) (v := ?vb10) rfl (by kernel_rfl) (by kernel_rfl) (by kernel_rfl) (fun _ _ _ h => h) (Or.inl ⟨by rfl, fun w' _ => ?yb10⟩) HH.out ?_
      case yb10 => (go_simp; try with_reducible rfl)
      try simp only [List.getElem_toArray, List.getElem_cons_succ, List.getElem_cons_zero, Act.put, List.setIfInBounds_toArray, List.set_cons_zero, List.set_cons_succ]
      refine wpAnyH_take (i := 11) (v := ?vb11) rfl (by kernel_rfl) (by kernel_rfl) (by kernel_rfl) (fun _ _ _ h => h) (Or.inl ⟨by rfl, fun w' _ => ?yb11⟩) HH.out ?_
      case yb11 => (go_simp; try with_reducible rfl)
      try simp only [List.getElem_toArray, List.getElem_cons_succ, List.getElem_cons_zero, Act.put, List.setIfInBounds_toArray, List.set_cons_zero, List.set_cons_succ]
      refine wpAnyH_take (i := 12) (v := ?vb12) rfl (by kernel_rfl) (by kernel_rfl) (by kernel_rfl) (fun _ _ _ h => h) (Or.inl ⟨by rfl, fun w' _ => ?yb12⟩) HH.out ?_
      case yb12 => (go_simp; try with_reducible rfl)
      refine wpAnyH_take (i := 13) (v := ?vb13) rfl (by kernel_rfl) (by kernel_rfl) (by kernel_rfl) (fun _ _ _ h => h) (Or.inl ⟨by rfl, fun w' hw' => ?yb13⟩) HH.out ?_
      case yb13 => (have cc := L1.out w' hw'; go_simp; try with_reducible rfl)
      try simp only [List.getElem_toArray, List.getElem_cons_succ, List.getElem_cons_zero, Act.put, List.setIfInBounds_toArray, List.set_cons_zero, List.set_cons_succ]
      refine wpAnyH_take (i := 14) (v := ?vb14) rfl (by kernel_rfl) (by kernel_rfl) (by kernel_rfl) (fun _ _ _ h => h) (Or.inl ⟨by rfl, fun w' _ => ?yb14⟩) HH.out ?_
      case yb14 => (go_simp; try with_reducible rfl)
      try simp only [List.getElem_toArray, List.getElem_cons_succ, List.getElem_cons_zero, Act.put, List.setIfInBounds_toArray, List.set_cons_zero, List.set_cons_succ]
      refine wpAnyH_take (i := 15) (v := ?vb15) rfl (by kernel_rfl) (by kernel_rfl) (by kernel_rfl) (fun _ _ _ h => h) (Or.inl ⟨by rfl, fun w' _ => ?yb15⟩) HH.out ?_
      case yb15 => (go_simp; try with_reducible rfl)
      try simp only [List.getElem_toArray, List.getElem_cons_succ, List.getElem_cons_zero, Act.put, List.setIfInBounds_toArray, List.set_cons_zero, List.set_cons_succ]
      refine wpAnyH_take (i := 16) (v := ?vb16) rfl (by kernel_rfl) (by kernel_rfl) (by kernel_rfl) (fun _ _ _ h => h) (Or.inl ⟨by rfl, fun w' _ => ?yb16⟩) HH.out ?_
      case yb16 => (go_simp; try with_reducible rfl)
      try simp only [List.getElem_toArray, List.getElem_cons_succ, List.getElem_cons_zero, Act.put, List.setIfInBounds_toArray, List.set_cons_zero, List.set_cons_succ]
      refine wpAnyH_take (i := 17) (v := ?vb17) rfl (by kernel_rfl) (by kernel_rfl) (by kernel_rfl) (fun _ _ _ h => h) (Or.inl ⟨by rfl, fun w' _ => ?yb17⟩) HH.out ?_
      case yb17 => (go_simp; try with_reducible rfl)
      try simp only [List.getElem_toArray, List.getElem_cons_succ, List.getElem_cons_zero, Act.put, List.setIfInBounds_toArray, List.set_cons_zero, List.set_cons_succ]
      refine wpAnyH_take (i := 18) (v := ?vb18) rfl (by kernel_rfl) (by kernel_rfl) (by kernel_rfl) (fun _ _ _ h => h) (Or.inl ⟨by rfl, fun w' _ => ?yb18⟩) HH.out ?_
      case yb18 => (go_simp; try with_reducible rfl)
      refine wpAnyH_take (i := 19) (v := ?vb19) rfl (by kernel_rfl) (by kernel_rfl) (by kernel_rfl) (fun _ _ _ h => h) (Or.inl ⟨by rfl, fun w' _ => ?yb19⟩) HH.out ?_
      case yb19 => (go_simp; try with_reducible rfl)
      try simp only [List.getElem_toArray, List.getElem_cons_succ, List.getElem_cons_zero, Act.put, List.setIfInBounds_toArray, List.set_cons_zero, List.set_cons_succ]
      refine wpAnyH_done (by kernel_rfl) ?_ _
      go_wp2_with fail
      have HBB := Lib.hid (show Below w.heap.size w (w.alloc (.cells #[] 41)).drew from ((Below.refl _ _).alloc (Nat.le_refl _) _).drew)
      have HEO := Lib.hid (show (w.alloc (.cells #[] 41)).drew.ownsRow w.heap.size 41 34 (.slice (some ⟨w.heap.size, 0, none⟩) 0 0) 0 (nvs (D.take 0)) from World.ownsRow_lit (base := w.heap.size) (size := 34) (e := 41) w #[] 0 (Nat.le_refl _) (Nat.zero_le _) rfl)
      clear HH L0 L1 d2 dn w1 w2 w3 w4 w5 w6 n1 n2 n1' n2' HM HBE
      go_loopw [4, 5, 6, 7] (fun o i _ _ wr => ∃ k p A1 c1, k ≤ K ∧ Hid (p = 2 + 36 * k) ∧ i = .int .i64 (p : Nat) ∧ o = .slice A1 k c1 ∧ Below w.heap.size w wr ∧ wr.ownsRow w.heap.size 41 34 (.slice A1 k c1) k (nvs (D.take k))) (fun _ i _ _ _ => n - (intOf i).toNat)
      case atStart => exact ⟨0, 2, _, 0, by omega, (rfl : 2 = 2 + 36 * 0), rfl, rfl, HBB.out, HEO.out⟩
      case round =>
        clear HBB HEO
        obtain ⟨wo, hwo⟩ : ∃ wo, wo = wr := ⟨_, rfl⟩
        subst hwo
        obtain ⟨k, p, A1, c1, hk, HP, rfl, rfl, hbw, how⟩ := hrel
        by_cases hlt : k < K
        · have hp36 : p + 36 ≤ n := by have := HP.out; have := HK.out; omega
          have HPL := Lib.hid hp36
          have hget := HDG.out k hlt
          have hkl : k < D.length := by rw [HDL.out]; exact hlt
          obtain ⟨Y, hY⟩ : ∃ Y, Y = D[k] := ⟨_, rfl⟩
          have hfit : fits Y := by rw [hY]; exact HDF.out _ (List.getElem_mem hkl)
          have hYe : Y = ndY (b.drop p) := by
            rw [List.getElem?_eq_getElem hkl, ← hY] at hget
            injection hget with hget
            rw [hget, HP.out]
          have hs : Y.s.length = 32 := hfit.2.2.2.2
          have hsn := nvs_snoc D hkl
          rw [← hY] at hsn
          obtain ⟨y0, g0⟩ : ∃ y : UInt8, b[p]? = some y := ⟨_, List.getElem?_eq_getElem (show p < b.length by rw [HL.out]; omega)⟩
          obtain ⟨y1, g1⟩ : ∃ y : UInt8, b[p + 1]? = some y := ⟨_, List.getElem?_eq_getElem (show p + 1 < b.length by rw [HL.out]; omega)⟩
          obtain ⟨y2, g2⟩ : ∃ y : UInt8, b[p + 2]? = some y := ⟨_, List.getElem?_eq_getElem (show p + 2 < b.length by rw [HL.out]; omega)⟩
          obtain ⟨y3, g3⟩ : ∃ y : UInt8, b[p + 3]? = some y := ⟨_, List.getElem?_eq_getElem (show p + 3 < b.length by rw [HL.out]; omega)⟩
          have eYd : (y0.toNat : Int) = Y.d := by rw [hYe, ndY]; simp [List.getD_eq_getElem?_getD, List.getElem?_drop, g0]
          have eYa : (y1.toNat : Int) * 65536 + (y2.toNat : Int) * 256 + (y3.toNat : Int) = Y.a := by rw [hYe, ndY]; simp [atY, List.getD_eq_getElem?_getD, List.getElem?_drop, g1, g2, g3]
          have HYS := Lib.hid (show ∀ q, q < 32 → b[p + 4 + q]? = Y.s[q]? from fun q hq => by rw [hYe, ndY]; simp [List.getElem?_drop, hq, Nat.add_assoc])
          have hbv : ∀ j (y : UInt8), b[j]? = some y → ∀ w', Below w.heap.size w w' → w'.cell? (ad.add j) = some (.int .u8 (y.toNat : Int)) := fun j y hj w' hb' => by
            obtain ⟨ad', hA', _, hc⟩ := (HR.out.below hb') j (.int .u8 (y.toNat : Int)) (by simp [bv, hj])
            injection hA' with hA'; subst hA'; exact hc
          have L0 := Lib.hid (hbv p y0 g0)
          obtain ⟨p1, hp1⟩ : ∃ p1, p1 = p + 1 := ⟨_, rfl⟩
          obtain ⟨p2, hp2⟩ : ∃ p2, p2 = p + 2 := ⟨_, rfl⟩
          obtain ⟨p3, hp3⟩ : ∃ p3, p3 = p + 3 := ⟨_, rfl⟩
          rw [← hp1] at g1
          rw [← hp2] at g2
          rw [← hp3] at g3
          have L1 := Lib.hid (hbv p1 y1 g1)
          have L2 := Lib.hid (hbv p2 y2 g2)
          have L3 := Lib.hid (hbv p3 y3 g3)
          have HBV := Lib.hid hbv
          have q1 : IntKind.i64.wrap ((p : Int) + 1) = (p1 : Int) := by rw [IntWalk.i64_in _ (by omega), hp1]; omega
          have q2 : IntKind.i64.wrap ((p : Int) + 2) = (p2 : Int) := by rw [IntWalk.i64_in _ (by omega), hp2]; omega
          have q3 : IntKind.i64.wrap ((p : Int) + 3) = (p3 : Int) := by rw [IntWalk.i64_in _ (by omega), hp3]; omega
          have z0 : (0 : Int) ≤ (p : Int) := by omega
          have z1 : (0 : Int) ≤ (p1 : Int) := by omega
          have z2 : (0 : Int) ≤ (p2 : Int) := by omega
          have z3 : (0 : Int) ≤ (p3 : Int) := by omega
          have s0 : (p : Int) < (n : Int) := by omega
          have s1 : (p1 : Int) < (n : Int) := by omega
          have s2 : (p2 : Int) < (n : Int) := by omega
          have s3 : (p3 : Int) < (n : Int) := by omega
          have y0b := y0.toNat_lt
          have y1b := y1.toNat_lt
          have y2b := y2.toNat_lt
          have y3b := y3.toNat_lt
          have v0 : IntKind.i64.wrap (y0.toNat : Int) = Y.d := by rw [IntWalk.i64_in _ (by omega)]; exact eYd
          have v1 : IntKind.u64.wrap (y1.toNat : Int) = (y1.toNat : Int) := IntWalk.u64_in _ (by omega)
          have v2 : IntKind.u64.wrap ((y1.toNat : Int) * 65536) = (y1.toNat : Int) * 65536 := IntWalk.u64_in _ (by omega)
          have v3 : IntKind.u64.wrap (y2.toNat : Int) = (y2.toNat : Int) := IntWalk.u64_in _ (by omega)
          have v4 : IntKind.u64.wrap ((y2.toNat : Int) * 256) = (y2.toNat : Int) * 256 := IntWalk.u64_in _ (by omega)
          have v5 : IntKind.u64.wrap ((y1.toNat : Int) * 65536 + (y2.toNat : Int) * 256) = (y1.toNat : Int) * 65536 + (y2.toNat : Int) * 256 := IntWalk.u64_in _ (by omega)
          have v6 : IntKind.u64.wrap (y3.toNat : Int) = (y3.toNat : Int) := IntWalk.u64_in _ (by omega)
          have v7 : IntKind.u64.wrap ((y1.toNat : Int) * 65536 + (y2.toNat : Int) * 256 + (y3.toNat : Int)) = Y.a := by rw [IntWalk.u64_in _ (by omega)]; exact eYa
          obtain ⟨Y0, hY0⟩ : ∃ Y0 : Nd, Y0 = ⟨Y.d, Y.a, List.replicate 32 0⟩ := ⟨_, rfl⟩
          have HBN := Lib.hid (show ∀ W, (Instr.build 41 #[(0, .int .i64 Y.d), (1, .int .u64 Y.a)]).run Try.prog W = .ok (.agg (ndC Y0)) W from fun W => by rw [hY0]; exact build_node2 _ _ W)
          have HIC : Hid ((Try.prog.info? 41).map (·.size) = some (ndC Y0).size) := by rw [ndC_size (by rw [hY0]; rfl)]; exact info_node
          have HYZ := Lib.hid (show Y0.s.length = 32 by rw [hY0]; rfl)
          have HY0 := Lib.hid hY0
          have HS := Lib.hid hs
          have HSN := Lib.hid hsn
          have HB := Lib.hid hbw
          have HO := Lib.hid how
          have HQ := Lib.hid (show p1 = p + 1 ∧ p2 = p + 2 ∧ p3 = p + 3 from ⟨hp1, hp2, hp3⟩)
          clear hget hkl hY hfit hYe hs hsn g0 g1 g2 g3 eYd eYa hbv hp1 hp2 hp3 y0b y1b y2b y3b hY0 hbw how hp36
          go_wp2_with fail
          refine wp_region_held_drew (S := fun w' => Below w.heap.size w w') (by kernel_rfl) HB.out.drew (fun hh => ?_)
          have HH := Lib.hid hh
          clear hh
          refine wpAnyH_take (i := 0) (v := ?vn0) rfl (by kernel_rfl) (by kernel_rfl) (by kernel_rfl) (fun _ _ _ h => h) (Or.inl ⟨by rfl, fun w' _ => ?yn0⟩) HH.out ?_
          case yn0 => (go_simp; try with_reducible rfl)
          refine wpAnyH_take (i := 1) (v := ?vn1) rfl (by kernel_rfl) (by kernel_rfl) (by kernel_rfl) (fun _ _ _ h => h) (Or.inl ⟨by rfl, fun w' _ => ?yn1⟩) HH.out ?_
          case yn1 => (go_simp; try with_reducible rfl)
          try simp only [List.getElem_toArray, List.getElem_cons_succ, List.getElem_cons_zero, Act.put, List.setIfInBounds_toArray, List.set_cons_zero, List.set_cons_succ]
          refine wpAnyH_take (i := 2) (v := ?vn2) rfl (by kernel_rfl) (by kernel_rfl) (by kernel_rfl) (fun _ _ _ h => h) (Or.inl ⟨by rfl, fun w' _ => ?yn2⟩) HH.out ?_
          case yn2 => (go_simp; try with_reducible rfl)
          refine wpAnyH_take (i := 3) (v := ?vn3) rfl (by kernel_rfl) (by kernel_rfl) (by kernel_rfl) (fun _ _ _ h => h) (Or.inl ⟨by rfl, fun w' hw' => ?yn3⟩) HH.out ?_
          case yn3 => (have cc := L0.out w' hw'; go_simp; try with_reducible rfl)
          refine wpAnyH_take (i := 4) (v := ?vn4) rfl (by kernel_rfl) (by kernel_rfl) (by kernel_rfl) (fun _ _ _ h => h) (Or.inl ⟨by rfl, fun w' _ => ?yn4⟩) HH.out ?_
          case yn4 => (go_simp; try with_reducible rfl)
          try simp only [List.getElem_toArray, List.getElem_cons_succ, List.getElem_cons_zero, Act.put, List.setIfInBounds_toArray, List.set_cons_zero, List.set_cons_succ]
          refine wpAnyH_take (i := 5) (v := ?vn5) rfl (by kernel_rfl) (by kernel_rfl) (by kernel_rfl) (fun _ _ _ h => h) (Or.inl ⟨by rfl, fun w' _ => ?yn5⟩) HH.out ?_
          case yn5 => (go_simp; try with_reducible rfl)
          refine wpAnyH_take (i := 6) (v := ?vn6) rfl (by kernel_rfl) (by kernel_rfl) (by kernel_rfl) (fun _ _ _ h => h) (Or.inl ⟨by rfl, fun w' _ => ?yn6⟩) HH.out ?_
          case yn6 => (go_simp; try with_reducible rfl)
          refine wpAnyH_take (i := 7) (v := ?vn7) rfl (by kernel_rfl) (by kernel_rfl) (by kernel_rfl) (fun _ _ _ h => h) (Or.inl ⟨by rfl, fun w' _ => ?yn7⟩) HH.out ?_
          case yn7 => (go_simp; try with_reducible rfl)
          try simp only [List.getElem_toArray, List.getElem_cons_succ, List.getElem_cons_zero, Act.put, List.setIfInBounds_toArray, List.set_cons_zero, List.set_cons_succ]
          refine wpAnyH_take (i := 8) (v := ?vn8) rfl (by kernel_rfl) (by kernel_rfl) (by kernel_rfl) (fun _ _ _ h => h) (Or.inl ⟨by rfl, fun w' _ => ?yn8⟩) HH.out ?_
          case yn8 => (go_simp; try with_reducible rfl)
          refine wpAnyH_take (i := 9) (v := ?vn9) rfl (by kernel_rfl) (by kernel_rfl) (by kernel_rfl) (fun _ _ _ h => h) (Or.inl ⟨by rfl, fun w' hw' => ?yn9⟩) HH.out ?_
          case yn9 => (have cc := L1.out w' hw'; go_simp; try with_reducible rfl)
          refine wpAnyH_take (i := 10) (v := ?vn10) rfl (by kernel_rfl) (by kernel_rfl) (by kernel_rfl) (fun _ _ _ h => h) (Or.inl ⟨by rfl, fun w' _ => ?yn10⟩) HH.out ?_
          case yn10 => (go_simp; try with_reducible rfl)
          try simp only [List.getElem_toArray, List.getElem_cons_succ, List.getElem_cons_zero, Act.put, List.setIfInBounds_toArray, List.set_cons_zero, List.set_cons_succ]
          refine wpAnyH_take (i := 11) (v := ?vn11) rfl (by kernel_rfl) (by kernel_rfl) (by kernel_rfl) (fun _ _ _ h => h) (Or.inl ⟨by rfl, fun w' _ => ?yn11⟩) HH.out ?_
          case yn11 => (go_simp; try with_reducible rfl)
          refine wpAnyH_take (i := 12) (v := ?vn12) rfl (by kernel_rfl) (by kernel_rfl) (by kernel_rfl) (fun _ _ _ h => h) (Or.inl ⟨by rfl, fun w' _ => ?yn12⟩) HH.out ?_
          case yn12 => (go_simp; try with_reducible rfl)
          refine wpAnyH_take (i := 13) (v := ?vn13) rfl (by kernel_rfl) (by kernel_rfl) (by kernel_rfl) (fun _ _ _ h => h) (Or.inl ⟨by rfl, fun w' _ => ?yn13⟩) HH.out ?_
          case yn13 => (go_simp; try with_reducible rfl)
          try simp only [List.getElem_toArray, List.getElem_cons_succ, List.getElem_cons_zero, Act.put, List.setIfInBounds_toArray, List.set_cons_zero, List.set_cons_succ]
          refine wpAnyH_take (i := 14) (v := ?vn14) rfl (by kernel_rfl) (by kernel_rfl) (by kernel_rfl) (fun _ _ _ h => h) (Or.inl ⟨by rfl, fun w' _ => ?yn14⟩) HH.out ?_
          case yn14 => (go_simp; try with_reducible rfl)
          refine wpAnyH_take (i := 15) (v := ?vn15) rfl (by kernel_rfl) (by kernel_rfl) (by kernel_rfl) (fun _ _ _ h => h) (Or.inl ⟨by rfl, fun w' _ => ?yn15⟩) HH.out ?_
          case yn15 => (go_simp; try with_reducible rfl)
          refine wpAnyH_take (i := 16) (v := ?vn16) rfl (by kernel_rfl) (by kernel_rfl) (by kernel_rfl) (fun _ _ _ h => h) (Or.inl ⟨by rfl, fun w' hw' => ?yn16⟩) HH.out ?_
          case yn16 => (have cc := L2.out w' hw'; go_simp; try with_reducible rfl)
          try simp only [List.getElem_toArray, List.getElem_cons_succ, List.getElem_cons_zero, Act.put, List.setIfInBounds_toArray, List.set_cons_zero, List.set_cons_succ]
          refine wpAnyH_take (i := 17) (v := ?vn17) rfl (by kernel_rfl) (by kernel_rfl) (by kernel_rfl) (fun _ _ _ h => h) (Or.inl ⟨by rfl, fun w' _ => ?yn17⟩) HH.out ?_
          case yn17 => (go_simp; try with_reducible rfl)
          refine wpAnyH_take (i := 18) (v := ?vn18) rfl (by kernel_rfl) (by kernel_rfl) (by kernel_rfl) (fun _ _ _ h => h) (Or.inl ⟨by rfl, fun w' _ => ?yn18⟩) HH.out ?_
          case yn18 => (go_simp; try with_reducible rfl)
          refine wpAnyH_take (i := 19) (v := ?vn19) rfl (by kernel_rfl) (by kernel_rfl) (by kernel_rfl) (fun _ _ _ h => h) (Or.inl ⟨by rfl, fun w' _ => ?yn19⟩) HH.out ?_
          case yn19 => (go_simp; try with_reducible rfl)
          try simp only [List.getElem_toArray, List.getElem_cons_succ, List.getElem_cons_zero, Act.put, List.setIfInBounds_toArray, List.set_cons_zero, List.set_cons_succ]
          refine wpAnyH_take (i := 20) (v := ?vn20) rfl (by kernel_rfl) (by kernel_rfl) (by kernel_rfl) (fun _ _ _ h => h) (Or.inl ⟨by rfl, fun w' _ => ?yn20⟩) HH.out ?_
          case yn20 => (go_simp; try with_reducible rfl)
          refine wpAnyH_take (i := 21) (v := ?vn21) rfl (by kernel_rfl) (by kernel_rfl) (by kernel_rfl) (fun _ _ _ h => h) (Or.inl ⟨by rfl, fun w' _ => ?yn21⟩) HH.out ?_
          case yn21 => (go_simp; try with_reducible rfl)
          refine wpAnyH_take (i := 22) (v := ?vn22) rfl (by kernel_rfl) (by kernel_rfl) (by kernel_rfl) (fun _ _ _ h => h) (Or.inl ⟨by rfl, fun w' _ => ?yn22⟩) HH.out ?_
          case yn22 => (go_simp; try with_reducible rfl)
          try simp only [List.getElem_toArray, List.getElem_cons_succ, List.getElem_cons_zero, Act.put, List.setIfInBounds_toArray, List.set_cons_zero, List.set_cons_succ]
          refine wpAnyH_take (i := 23) (v := ?vn23) rfl (by kernel_rfl) (by kernel_rfl) (by kernel_rfl) (fun _ _ _ h => h) (Or.inl ⟨by rfl, fun w' _ => ?yn23⟩) HH.out ?_
          case yn23 => (go_simp; try with_reducible rfl)
          refine wpAnyH_take (i := 24) (v := ?vn24) rfl (by kernel_rfl) (by kernel_rfl) (by kernel_rfl) (fun _ _ _ h => h) (Or.inl ⟨by rfl, fun w' hw' => ?yn24⟩) HH.out ?_
          case yn24 => (have cc := L3.out w' hw'; go_simp; try with_reducible rfl)
          refine wpAnyH_take (i := 25) (v := ?vn25) rfl (by kernel_rfl) (by kernel_rfl) (by kernel_rfl) (fun _ _ _ h => h) (Or.inl ⟨by rfl, fun w' _ => ?yn25⟩) HH.out ?_
          case yn25 => (go_simp; try with_reducible rfl)
          try simp only [List.getElem_toArray, List.getElem_cons_succ, List.getElem_cons_zero, Act.put, List.setIfInBounds_toArray, List.set_cons_zero, List.set_cons_succ]
          refine wpAnyH_take (i := 26) (v := ?vn26) rfl (by kernel_rfl) (by kernel_rfl) (by kernel_rfl) (fun _ _ _ h => h) (Or.inl ⟨by rfl, fun w' _ => ?yn26⟩) HH.out ?_
          case yn26 => (go_simp; try with_reducible rfl)
          refine wpAnyH_take (i := 27) (v := .agg (ndC Y0)) rfl (by kernel_rfl) (by kernel_rfl) (by kernel_rfl) (fun _ _ _ h => h) (Or.inl ⟨by rfl, fun w' _ => ?yn27⟩) HH.out ?_
          case yn27 =>
            refine exec_build 41 #[(0, .tmp 39), (1, .tmp 61)] rfl ?_
            simp only [List.map_toArray, List.map_cons, List.map_nil]
            show (Instr.build 41 #[(0, .int .i64 Y.d), (1, .int .u64 Y.a)]).run Try.prog _ = _
            exact HBN.out _
          try simp only [List.getElem_toArray, List.getElem_cons_succ, List.getElem_cons_zero, Act.put, List.setIfInBounds_toArray, List.set_cons_zero, List.set_cons_succ]
          refine wpAnyH_ready (rs := [28]) (by kernel_rfl) (by simp) (AllReadyH.cons rfl (fun K' hK => ?_) AllReadyH.nil)
          go_simp
          generalize hwa : World.drew (World.alloc wo _) = wa
          have HW0 := Lib.hid (show Below wo.heap.size wo wa by rw [← hwa]; exact ((Below.refl _ _).alloc (Nat.le_refl _) _).drew)
          have HA0 := Lib.hid (show Blk wa wo.heap.size cz 41 by rw [← hwa]; exact heap_alloc_new _ _)
          clear hwa
          refine hK.out _ _ (HB.out.trans (HW0.out.mono HB.out.size)) (fun hh => ?_)
          clear hK K' hh HH
          try simp only [List.getElem_toArray, List.getElem_cons_succ, List.getElem_cons_zero, Act.put, List.setIfInBounds_toArray, List.set_cons_zero, List.set_cons_succ]
          refine wpAnyH_ready (rs := [29]) (by kernel_rfl) (by simp) (AllReadyH.cons rfl (fun K' hK => ?_) AllReadyH.nil)
          rw [if_pos (by rfl)]
          refine wp_store_row 41 (.tmp 6) (.tmp 62) rfl wo.heap.size (ndC Y0) rfl rfl 41 cz HA0.out HIC.out (by rw [ndC_size HYZ.out, ZN.out]) (ndC_one _) ?_
          generalize hwb : World.setRow wa _ _ = wb
          have HW1 := Lib.hid (show Below wo.heap.size wo wb by rw [← hwb]; exact below_setRow HW0.out (Nat.le_refl _) _)
          have HA1 := Lib.hid (show Blk wb wo.heap.size (ndC Y0) 41 by rw [← hwb]; exact setRow_heap _ _ _ _ _ _ HA0.out)
          clear hwb
          refine hK.out _ _ (HB.out.trans (HW1.out.mono HB.out.size)) (fun hh => ?_)
          clear hK K' hh HW0 HA0
          refine wpAnyH_done (by kernel_rfl) ?_ _
          clear q1 q2 q3 z1 z2 z3 s0 s1 s2 s3 v0 v1 v2 v3 v4 v5 v6 v7 L0 L1 L2 L3 HQ HBN
          go_wp2_with fail
          go_loopw [7] (fun j wq => ∃ q, q ≤ 32 ∧ j = .int .i64 (q : Nat) ∧ Below wo.heap.size wo wq ∧ Blk wq wo.heap.size (ndC ⟨Y.d, Y.a, sd Y.s q⟩) 41) (fun j _ => 32 - (intOf j).toNat)
          case atStart => exact ⟨0, by omega, rfl, HW1.out, by rw [show sd Y.s 0 = List.replicate 32 0 by simp [sd], ← HY0.out]; exact HA1.out⟩
          case round =>
            clear HW1 HA1 HY0 HIC HYZ
            obtain ⟨q, hq, rfl, hbq, hblk⟩ := hrel
            by_cases hq1 : q < 32
            · obtain ⟨y, hy⟩ : ∃ y : UInt8, Y.s[q]? = some y := ⟨_, List.getElem?_eq_getElem (show q < Y.s.length by rw [HS.out]; exact hq1)⟩
              obtain ⟨r4, hr4⟩ : ∃ r4, r4 = p + 4 := ⟨_, rfl⟩
              obtain ⟨r5, hr5⟩ : ∃ r5, r5 = p + 4 + q := ⟨_, rfl⟩
              have hy5 : b[r5]? = some y := by rw [hr5, HYS.out q hq1]; exact hy
              have cc := HBV.out r5 y hy5 _ (HB.out.trans (hbq.mono HB.out.size))
              have hp36 := HPL.out
              have e4 : IntKind.i64.wrap ((p : Int) + 4) = (r4 : Int) := by rw [IntWalk.i64_in _ (by omega), hr4]; omega
              have e5 : IntKind.i64.wrap ((r4 : Int) + (q : Int)) = (r5 : Int) := by rw [IntWalk.i64_in _ (by omega), hr4, hr5]; omega
              have t0 : (0 : Int) ≤ (r5 : Int) := by omega
              have t1 : (r5 : Int) < (n : Int) := by omega
              have q0 : (0 : Int) ≤ (q : Int) := by omega
              have q32 : (q : Int) < 32 := by omega
              have eq' : IntKind.i64.wrap ((q : Int) + 1) = ((q + 1 : Nat) : Int) := by rw [IntWalk.i64_in _ (by omega)]; omega
              have D0 : wr.cell? ⟨wo.heap.size, 2 + q, none⟩ = some (.int .u8 (((sd Y.s q).getD q 0).toNat : Int)) := by
                rw [hblk.cell, ndC, List.getElem?_toArray, ndV, show 2 + q = q + 1 + 1 by omega, List.getElem?_cons_succ, List.getElem?_cons_succ]
                have hl : q < (sd Y.s q).length := by rw [sd_length HS.out hq]; exact hq1
                rw [bv_get hl, List.getD_eq_getElem?_getD, List.getElem?_eq_getElem hl]; rfl
              have D1 := hblk.free (2 + q)
              have HSET := Lib.hid (Blk.setN hblk (2 + q) (.int .u8 (y.toNat : Int)))
              have HN1 := Lib.hid (show (ndC ⟨Y.d, Y.a, sd Y.s q⟩).setIfInBounds (2 + q) (.int .u8 (y.toNat : Int)) = ndC ⟨Y.d, Y.a, sd Y.s (q + 1)⟩ by rw [nd_set, sd_set HS.out hq1 hy])
              have HBQ := Lib.hid hbq
              clear hy hr4 hr5 hy5 hp36 hbq hblk
              go_wp2_with fail
              go_roundw
              case rel => exact ⟨q + 1, by omega, by go_num, HBQ.out.setCell (Nat.le_refl _) _, by have h := HSET.out; rw [HN1.out] at h; exact h⟩
              case measure => simp [intOf]; omega
            · obtain rfl : q = 32 := by omega
              rw [sd_all HS.out] at hblk
              have HBL := Lib.hid (show Blk wr wo.heap.size (ndC Y) 41 from hblk)
              have HIY : Hid ((Try.prog.info? 41).map (·.size) = some (ndC Y).size) := by rw [ndC_size HS.out]; exact info_node
              have PO := Lib.hid (own_belowN HO.out hbq)
              have PB := Lib.hid (HB.out.trans (hbq.mono HB.out.size))
              have ep : IntKind.i64.wrap ((p : Int) + 36) = ((p + 36 : Nat) : Int) := by rw [IntWalk.i64_in _ (by have := HPL.out; omega)]; omega
              clear hbq hblk HO HB
              go_wp2_with (first
                | (refine wpList_load_row rfl 41 (.tmp 6) rfl wo.heap.size rfl 41 (ndC Y) (0, 0) _ HBL.out Try.underlying41 rfl HIY.out ?_)
                | (refine wpList_buildSlice rfl 30 41 1 #[(0, .tmp 78)] rfl (ndC Y) ie _ Try.underlying30 hie hz0 (by rw [hz1]; omega) (by rw [hz1]; omega) (by rw [hz1]; simp only [List.map_toArray, List.map_cons, List.map_nil]; exact one_fill Y HS.out) ?_
                   generalize hwy : World.alloc wr _ = wy
                   have FR := Lib.hid (show Rd wy.heap.size wy (some ⟨wr.heap.size, 0, none⟩) (ndV Y) by rw [← hwy]; exact rd_ndC (heap_alloc_new _ _))
                   have FO := Lib.hid (show wy.ownsRow w.heap.size 41 34 (.slice A1 k c1) k (nvs (D.take k)) by rw [← hwy]; exact own_belowN PO.out ((Below.refl _ _).alloc (Nat.le_refl _) _))
                   have FB := Lib.hid (show Below w.heap.size w wy by rw [← hwy]; exact PB.out.alloc PB.out.size _)
                   clear hwy PB PO HBL)
                | (at_builtin
                   refine wpList_appN _ rfl (.tmp 77) (.tmp 79) 30 rfl nodesElt (base := w.heap.size) (v := .slice A1 k c1) rfl FO.out (m := 1) rfl FR.out (by rw [ndV_length HS.out]) (ndV_one _) (by omega) FB.out.size ?_
                   intro A3 c3 w3 ho3 hg3 _
                   have hb3 : Below w.heap.size w w3 := app_belowN FB.out FO.out hg3 (Nat.le_refl _) FB.out.size
                   rw [← HSN.out] at ho3
                   have O3 := Lib.hid ho3
                   have B3 := Lib.hid hb3
                   clear ho3 hg3 hb3 FO FR FB))
              go_roundw
              case rel => exact ⟨k + 1, p + 36, A3, c3, by omega, (show p + 36 = 2 + 36 * (k + 1) by have := HP.out; omega), by go_num, rfl, B3.out, O3.out⟩
              case measure => have := HPL.out; simp [intOf]; omega
        · obtain rfl : k = K := by omega
          have hpn : ¬ ((p : Int) < (n : Int)) := by have := HP.out; have := HK.out; omega
          rw [List.take_of_length_le (by rw [HDL.out]; exact Nat.le_refl _)] at how
          have HB := Lib.hid hbw
          have HO := Lib.hid how
          clear hbw how
          have HLP := Lib.hid (show ∀ x ∈ D, -9223372036854775808 ≤ x.d ∧ 0 ≤ x.a from fun x hx => by have h := HDF.out x hx; exact ⟨by have := h.1; omega, h.2.2.1⟩)
          have HL3 := Lib.hid (show ∀ x ∈ D, x.s.length = 32 from fun x hx => (HDF.out x hx).2.2.2.2)
          go_wp2_with fail
          refine (may_any A1 k c1 D wo HDL.out HL3.out HLP.out (Nat.le_refl _) (Rd.ownN HO.out) (by omega)).mono ?_
          rintro e w2 ⟨t, rfl, ht, bw⟩
          have HO2 := Lib.hid (own_belowN HO.out bw)
          have HB2 := Lib.hid (HB.out.trans (bw.mono HB.out.size))
          by_cases hok : okS 0 D
          · have htt : t = true := ht.2 hok
            subst htt
            have HY := Lib.hid (HOKY.out.2 hok)
            clear hok ht bw
            go_wp2_with fail
            go_ret2
            exact ⟨HB2.out, .inl ⟨HY.out, A1, k, c1, rfl, by rw [← HDD.out]; exact HO2.out⟩⟩
          · have htf : t = false := by cases t; rfl; exact absurd (ht.1 rfl) hok
            subst htf
            have HNO := Lib.hid (show ¬ okY b from fun h => hok (HOKY.out.1 h))
            clear hok ht bw
            go_wp2_with fail
            go_ret2
            exact ⟨HB2.out, .inr ⟨HNO.out, rfl⟩⟩
    · have dn : ((n : Int) != 2 + 36 * ((b0.toNat : Int) * 256 + (b1.toNat : Int))) = true := by simp [hne]
      have HNO := Lib.hid (show ¬ okY b from fun h => hne (by have := h.2.1; rw [HM.out, HL.out] at this; omega))
      clear hl h2 hm hbe hne
      go_enter Try.func18, Try.ntmps18
      go_wp2_with fail
      refine wp_region_held_drew (S := fun w' => Below w.heap.size w w') (by kernel_rfl) (Below.refl w.heap.size w).drew (fun hh => ?_)
      have HH := Lib.hid hh
      clear hh
      refine wpAnyH_take (i := 0) (v := ?vd0) rfl (by kernel_rfl) (by kernel_rfl) (by kernel_rfl) (fun _ _ _ h => h) (Or.inl ⟨by rfl, fun w' _ => ?yd0⟩) HH.out ?_
      case yd0 => (go_simp; try with_reducible rfl)
      refine wpAnyH_take (i := 1) (v := ?vd1) rfl (by kernel_rfl) (by kernel_rfl) (by kernel_rfl) (fun _ _ _ h => h) (Or.inl ⟨by rfl, fun w' _ => ?yd1⟩) HH.out ?_
      case yd1 => (go_simp; try with_reducible rfl)
      try simp only [List.getElem_toArray, List.getElem_cons_succ, List.getElem_cons_zero, Act.put, List.setIfInBounds_toArray, List.set_cons_zero, List.set_cons_succ]
      refine wpAnyH_take (i := 2) (v := ?vd2) rfl (by kernel_rfl) (by kernel_rfl) (by kernel_rfl) (fun _ _ _ h => h) (Or.inl ⟨by rfl, fun w' _ => ?yd2⟩) HH.out ?_
      case yd2 => (go_simp; try with_reducible rfl)
      refine wpAnyH_take (i := 3) (v := ?vd3) rfl (by kernel_rfl) (by kernel_rfl) (by kernel_rfl) (fun _ _ _ h => h) (Or.inl ⟨by rfl, fun w' _ => ?yd3⟩) HH.out ?_
      case yd3 => (go_simp; try with_reducible rfl)
      try simp only [List.getElem_toArray, List.getElem_cons_succ, List.getElem_cons_zero, Act.put, List.setIfInBounds_toArray, List.set_cons_zero, List.set_cons_succ]
      refine wpAnyH_take (i := 4) (v := ?vd4) rfl (by kernel_rfl) (by kernel_rfl) (by kernel_rfl) (fun _ _ _ h => h) (Or.inl ⟨by rfl, fun w' _ => ?yd4⟩) HH.out ?_
      case yd4 => (go_simp; try with_reducible rfl)
      try simp only [List.getElem_toArray, List.getElem_cons_succ, List.getElem_cons_zero, Act.put, List.setIfInBounds_toArray, List.set_cons_zero, List.set_cons_succ]
      refine wpAnyH_take (i := 5) (v := ?vd5) rfl (by kernel_rfl) (by kernel_rfl) (by kernel_rfl) (fun _ _ _ h => h) (Or.inl ⟨by rfl, fun w' _ => ?yd5⟩) HH.out ?_
      case yd5 => (go_simp; try with_reducible rfl)
      try simp only [List.getElem_toArray, List.getElem_cons_succ, List.getElem_cons_zero, Act.put, List.setIfInBounds_toArray, List.set_cons_zero, List.set_cons_succ]
      refine wpAnyH_take (i := 6) (v := ?vd6) rfl (by kernel_rfl) (by kernel_rfl) (by kernel_rfl) (fun _ _ _ h => h) (Or.inl ⟨by rfl, fun w' _ => ?yd6⟩) HH.out ?_
      case yd6 => (go_simp; try with_reducible rfl)
      try simp only [List.getElem_toArray, List.getElem_cons_succ, List.getElem_cons_zero, Act.put, List.setIfInBounds_toArray, List.set_cons_zero, List.set_cons_succ]
      refine wpAnyH_take (i := 7) (v := ?vd7) rfl (by kernel_rfl) (by kernel_rfl) (by kernel_rfl) (fun _ _ _ h => h) (Or.inl ⟨by rfl, fun w' _ => ?yd7⟩) HH.out ?_
      case yd7 => (go_simp; try with_reducible rfl)
      try simp only [List.getElem_toArray, List.getElem_cons_succ, List.getElem_cons_zero, Act.put, List.setIfInBounds_toArray, List.set_cons_zero, List.set_cons_succ]
      refine wpAnyH_take (i := 8) (v := ?vd8) rfl (by kernel_rfl) (by kernel_rfl) (by kernel_rfl) (fun _ _ _ h => h) (Or.inl ⟨by rfl, fun w' hw' => ?yd8⟩) HH.out ?_
      case yd8 => (have cc := L0.out w' hw'; go_simp; try with_reducible rfl)
      try simp only [List.getElem_toArray, List.getElem_cons_succ, List.getElem_cons_zero, Act.put, List.setIfInBounds_toArray, List.set_cons_zero, List.set_cons_succ]
      refine wpAnyH_take (i := 9) (v := ?vd9) rfl (by kernel_rfl) (by kernel_rfl) (by kernel_rfl) (fun _ _ _ h => h) (Or.inl ⟨by rfl, fun w' _ => ?yd9⟩) HH.out ?_
      case yd9 => (go_simp; try with_reducible rfl)
      try simp only [List.getElem_toArray, List.getElem_cons_succ, List.getElem_cons_zero, Act.put, List.setIfInBounds_toArray, List.set_cons_zero, List.set_cons_succ]
      refine wpAnyH_take (i := 10) (v := ?vd10) rfl (by kernel_rfl) (by kernel_rfl) (by kernel_rfl) (fun _ _ _ h => h) (Or.inl ⟨by rfl, fun w' _ => ?yd10⟩) HH.out ?_
      case yd10 => (go_simp; try with_reducible rfl)
      try simp only [List.getElem_toArray, List.getElem_cons_succ, List.getElem_cons_zero, Act.put, List.setIfInBounds_toArray, List.set_cons_zero, List.set_cons_succ]
      refine wpAnyH_take (i := 11) (v := ?vd11) rfl (by kernel_rfl) (by kernel_rfl) (by kernel_rfl) (fun _ _ _ h => h) (Or.inl ⟨by rfl, fun w' _ => ?yd11⟩) HH.out ?_
      case yd11 => (go_simp; try with_reducible rfl)
      try simp only [List.getElem_toArray, List.getElem_cons_succ, List.getElem_cons_zero, Act.put, List.setIfInBounds_toArray, List.set_cons_zero, List.set_cons_succ]
      refine wpAnyH_take (i := 12) (v := ?vd12) rfl (by kernel_rfl) (by kernel_rfl) (by kernel_rfl) (fun _ _ _ h => h) (Or.inl ⟨by rfl, fun w' _ => ?yd12⟩) HH.out ?_
      case yd12 => (go_simp; try with_reducible rfl)
      refine wpAnyH_take (i := 13) (v := ?vd13) rfl (by kernel_rfl) (by kernel_rfl) (by kernel_rfl) (fun _ _ _ h => h) (Or.inl ⟨by rfl, fun w' hw' => ?yd13⟩) HH.out ?_
      case yd13 => (have cc := L1.out w' hw'; go_simp; try with_reducible rfl)
      try simp only [List.getElem_toArray, List.getElem_cons_succ, List.getElem_cons_zero, Act.put, List.setIfInBounds_toArray, List.set_cons_zero, List.set_cons_succ]
      refine wpAnyH_take (i := 14) (v := ?vd14) rfl (by kernel_rfl) (by kernel_rfl) (by kernel_rfl) (fun _ _ _ h => h) (Or.inl ⟨by rfl, fun w' _ => ?yd14⟩) HH.out ?_
      case yd14 => (go_simp; try with_reducible rfl)
      try simp only [List.getElem_toArray, List.getElem_cons_succ, List.getElem_cons_zero, Act.put, List.setIfInBounds_toArray, List.set_cons_zero, List.set_cons_succ]
      refine wpAnyH_take (i := 15) (v := ?vd15) rfl (by kernel_rfl) (by kernel_rfl) (by kernel_rfl) (fun _ _ _ h => h) (Or.inl ⟨by rfl, fun w' _ => ?yd15⟩) HH.out ?_
      case yd15 => (go_simp; try with_reducible rfl)
      try simp only [List.getElem_toArray, List.getElem_cons_succ, List.getElem_cons_zero, Act.put, List.setIfInBounds_toArray, List.set_cons_zero, List.set_cons_succ]
      refine wpAnyH_take (i := 16) (v := ?vd16) rfl (by kernel_rfl) (by kernel_rfl) (by kernel_rfl) (fun _ _ _ h => h) (Or.inl ⟨by rfl, fun w' _ => ?yd16⟩) HH.out ?_
      case yd16 => (go_simp; try with_reducible rfl)
      try simp only [List.getElem_toArray, List.getElem_cons_succ, List.getElem_cons_zero, Act.put, List.setIfInBounds_toArray, List.set_cons_zero, List.set_cons_succ]
      refine wpAnyH_take (i := 17) (v := ?vd17) rfl (by kernel_rfl) (by kernel_rfl) (by kernel_rfl) (fun _ _ _ h => h) (Or.inl ⟨by rfl, fun w' _ => ?yd17⟩) HH.out ?_
      case yd17 => (go_simp; try with_reducible rfl)
      try simp only [List.getElem_toArray, List.getElem_cons_succ, List.getElem_cons_zero, Act.put, List.setIfInBounds_toArray, List.set_cons_zero, List.set_cons_succ]
      refine wpAnyH_take (i := 18) (v := ?vd18) rfl (by kernel_rfl) (by kernel_rfl) (by kernel_rfl) (fun _ _ _ h => h) (Or.inl ⟨by rfl, fun w' _ => ?yd18⟩) HH.out ?_
      case yd18 => (go_simp; try with_reducible rfl)
      refine wpAnyH_take (i := 19) (v := ?vd19) rfl (by kernel_rfl) (by kernel_rfl) (by kernel_rfl) (fun _ _ _ h => h) (Or.inl ⟨by rfl, fun w' _ => ?yd19⟩) HH.out ?_
      case yd19 => (go_simp; try with_reducible rfl)
      try simp only [List.getElem_toArray, List.getElem_cons_succ, List.getElem_cons_zero, Act.put, List.setIfInBounds_toArray, List.set_cons_zero, List.set_cons_succ]
      refine wpAnyH_done (by kernel_rfl) ?_ _
      go_wp2_with fail
      go_ret2
      exact ⟨HH.out, .inr ⟨HNO.out, rfl⟩⟩
end Go.Proofs.Ytippbjpodnnhiaa.Kc
