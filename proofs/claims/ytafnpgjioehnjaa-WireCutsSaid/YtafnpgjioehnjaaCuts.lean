/-
  WireCuts holds: for every two lists of parts and every place of a cut the law returns true and its arguments read as they did.
-/
import Derived.Test.YtafnpgjioehnjaaAwake
import Derived.Test.YtafnpgjioehnjaaUse
import Derived.Test.YtafnpgjioehnjaaListSame
import Derived.Test.YtafnpgjioehnjaaOld
import Derived.Deep.RegionHeld3
import Derived.Deep.DrawnRows
import Derived.Test.YtafnpgjioehnjaaOpen
import Derived.ProofKit
import Derived.OpenShut
import Derived.ShutString
import Derived.ChangeOld
namespace Go.Proofs.Ytafnpgjioehnjaa
open Go.RowKit Go.ChangeShapes Go.WideShapes Go.ChangeAt

theorem all_take {ls : List (List UInt8)} {k M : Nat} (h : ∀ l ∈ ls.take k, l.length ≤ M) (hk : k < ls.length) (hl : ls[k].length ≤ M) : ∀ l ∈ ls.take (k + 1), l.length ≤ M := by
  intro l hm
  rw [List.take_succ_eq_append_getElem hk, List.mem_append] at hm
  rcases hm with hm | hm
  · exact h l hm
  · simp at hm
    rw [hm]; exact hl
theorem all_whole {ls : List (List UInt8)} {k M : Nat} (h : ∀ l ∈ ls.take k, l.length ≤ M) (hk : ¬ k < ls.length) : ∀ l ∈ ls, l.length ≤ M := by
  rwa [List.take_of_length_le (by omega)] at h
theorem intsElt : Elt Try.prog 40 3 (.int .i64 0) 8 := ⟨Try.underlying40, by kernel_rfl, rfl, by omega⟩
/-- Where part i begins. -/
def endAt (ls : List (List UInt8)) (i : Nat) : Nat := (frameL (ls.take i)).length
def endL (ls : List (List UInt8)) (k : Nat) : List Value := (List.range (k + 1)).map fun i => .int .i64 (endAt ls i : Int)
theorem endL_length (ls : List (List UInt8)) (k : Nat) : (endL ls k).length = k + 1 := by simp [endL]
theorem endL_get {ls : List (List UInt8)} {k i : Nat} (h : i ≤ k) : (endL ls k)[i]? = some (.int .i64 (endAt ls i : Int)) := by
  simp [endL, Nat.lt_succ_of_le h]
theorem endL_more (ls : List (List UInt8)) (k : Nat) : endL ls (k + 1) = endL ls k ++ [.int .i64 (endAt ls (k + 1) : Int)] := by
  unfold endL
  rw [List.range_succ (n := k + 1), List.map_append]; rfl
theorem endAt_zero (ls : List (List UInt8)) : endAt ls 0 = 0 := rfl
theorem endAt_step {ls : List (List UInt8)} {k : Nat} (h : k < ls.length) : endAt ls (k + 1) = endAt ls k + (2 + ls[k].length) := frame_step h
theorem endAt_le (ls : List (List UInt8)) (i : Nat) : endAt ls i ≤ (frameL ls).length := frame_le ls i
theorem endAt_lt {ls : List (List UInt8)} {i j : Nat} (h : i < j) (hj : j ≤ ls.length) : endAt ls i < endAt ls j := by
  induction j with
  | zero => omega
  | succ j ih =>
    rw [endAt_step (by omega)]
    rcases Nat.lt_succ_iff_lt_or_eq.1 h with h1 | h1
    · have := ih h1 (by omega); omega
    · rw [h1]; omega
theorem endAt_inj {ls : List (List UInt8)} {i j : Nat} (hi : i ≤ ls.length) (hj : j ≤ ls.length) (h : endAt ls i = endAt ls j) : i = j := by
  rcases Nat.lt_trichotomy i j with h1 | h1 | h1
  · have := endAt_lt h1 hj; omega
  · exact h1
  · have := endAt_lt h1 hi; omega
theorem endAt_cons (l : List UInt8) (ls : List (List UInt8)) (j : Nat) : endAt (l :: ls) (j + 1) = 2 + l.length + endAt ls j := by
  have e : frameL ((l :: ls).take (j + 1)) = putL l.length 2 ++ l ++ frameL (ls.take j) := by simp [frameL]
  rw [endAt, e, List.length_append, List.length_append, putL_length]; rfl
/-- Cut where a part ends: the frame of the first ones. -/
theorem cut_at {ls : List (List UInt8)} (j : Nat) (h : ∀ l ∈ ls, l.length ≤ 65535) : partsL ((frameL ls).take (endAt ls j)) = some (ls.take j) := by
  have e : frameL ls = frameL (ls.take j) ++ frameL (ls.drop j) := by rw [← frame_append, List.take_append_drop]
  have e2 : (frameL ls).take (endAt ls j) = frameL (ls.take j) := by
    unfold endAt
    rw [e, List.take_left' rfl]
  rw [e2]
  exact parts_frame fun l hl => h l (List.mem_of_mem_take hl)
/-- Cut elsewhere: none's. -/
theorem cut_else : ∀ (ls : List (List UInt8)) (k : Nat), (∀ l ∈ ls, l.length ≤ 65535) → k ≤ (frameL ls).length → (∀ j, j ≤ ls.length → endAt ls j ≠ k) → partsL ((frameL ls).take k) = none
  | [], k, _, hk, hn => by
    have : (frameL []).length = 0 := rfl
    exact absurd (endAt_zero []) (by have := hn 0 (Nat.le_refl _); rw [endAt_zero] at this; omega)
  | l :: ls, k, h, hk, hn => by
    have hl := h l (by simp)
    have e : frameL (l :: ls) = putL l.length 2 ++ l ++ frameL ls := by simp [frameL]
    have hP : (putL l.length 2 ++ l).length = 2 + l.length := by rw [List.length_append, putL_length]
    have h0 : k ≠ 0 := fun h0 => hn 0 (Nat.zero_le _) (by rw [h0]; rfl)
    rw [e] at hk ⊢
    rw [List.length_append, hP] at hk
    by_cases hkP : k < 2 + l.length
    · have ht : ((putL l.length 2 ++ l ++ frameL ls).take k).length = k := by rw [List.length_take, List.length_append, hP]; omega
      refine partsL_bad (by omega) ?_
      unfold badAt
      rw [ht]
      by_cases h2 : k < 2
      · exact .inl h2
      · right
        have hs := size_frame (r := frameL ls) hl
        unfold sizeAt at hs ⊢
        rw [List.take_take, Nat.min_eq_left (by omega), hs]
        omega
    · have e2 : (putL l.length 2 ++ l ++ frameL ls).take k = putL l.length 2 ++ l ++ (frameL ls).take (k - (2 + l.length)) := by
        rw [List.take_append, hP, List.take_of_length_le (by rw [hP]; omega)]
      rw [e2, parts_cons hl, cut_else ls (k - (2 + l.length)) (fun x hx => h x (by simp [hx])) (by omega) (fun j hj hjk => hn (j + 1) (by simp; omega) (by rw [endAt_cons, hjk]; omega))]
      rfl

theorem RdB.take {B : Nat} {w : World} {A : Option Addr} {ls : List (List UInt8)} (h : RdB B w A ls) (j : Nat) : RdB B w A (ls.take j) := by
  obtain ⟨vs, h1, h2, h3⟩ := h
  refine ⟨vs.take j, by simp [h1], fun k u hu => ?_, fun k v l hv hl => ?_⟩
  · have hk : k < j := by have := (List.getElem?_eq_some_iff.1 hu).1; simp at this; omega
    rw [List.getElem?_take, if_pos hk] at hu
    exact h2 k u hu
  · have hk : k < j := by have := (List.getElem?_eq_some_iff.1 hv).1; simp at this; omega
    rw [List.getElem?_take, if_pos hk] at hv hl
    exact h3 k v l hv hl
theorem RdB.cells {B : Nat} {w : World} {A : Option Addr} {ls : List (List UInt8)} (h : RdB B w A ls) :
    ∃ vs : List Value, vs.length = ls.length ∧ Rd B w A vs ∧ (∀ u ∈ vs, u.oneCell' = true) ∧ ∀ (k : Nat) (v : Value) (l : List UInt8), vs[k]? = some v → ls[k]? = some l → IsB B w v l := by
  obtain ⟨vs, h1, h2, h3⟩ := h
  refine ⟨vs, h1, h2, fun u hu => ?_, h3⟩
  obtain ⟨k, hk⟩ := List.mem_iff_getElem?.1 hu
  have hkl : k < ls.length := by have := (List.getElem?_eq_some_iff.1 hk).1; omega
  obtain ⟨A', c', rfl, _⟩ := h3 k u _ hk (List.getElem?_eq_getElem hkl)
  rfl
theorem rdb_join {w w' : World} {B base n c : Nat} {t : TypeId} {A : Option Addr} {us ts : List Value} {ls ms : List (List UInt8)} (h : w'.ownsRow base t 1 (.slice A n c) n (us ++ ts))
    (h1 : us.length = ls.length) (h2 : ∀ (k : Nat) (v : Value) (l : List UInt8), us[k]? = some v → ls[k]? = some l → IsB B w v l)
    (h3 : ts.length = ms.length) (h4 : ∀ (k : Nat) (v : Value) (l : List UInt8), ts[k]? = some v → ms[k]? = some l → IsB B w v l)
    (hb : Below B w w') (hB : B ≤ w'.heap.size) : RdB w'.heap.size w' A (ls ++ ms) := by
  refine ⟨us ++ ts, by simp [h1, h3], Rd.own h, fun k v l hv hl => ?_⟩
  rcases Nat.lt_or_ge k us.length with hk | hk
  · rw [List.getElem?_append_left hk] at hv
    rw [List.getElem?_append_left (by omega)] at hl
    exact ((h2 k v l hv hl).below hb).more hB
  · rw [List.getElem?_append_right hk] at hv
    rw [List.getElem?_append_right (by omega)] at hl
    exact ((h4 (k - us.length) v l hv (by rw [h1]; exact hl)).below hb).more hB

attribute [local go_sem ↓] Go.wp_at_zero Go.wp_at_succ

set_option maxRecDepth 100000 in
set_option maxHeartbeats 3200000 in
theorem wireCuts_any (w : World) (A : Option Addr) (n c : Nat) (ls : List (List UInt8)) (hn : ls.length = n) (hnc : n ≤ c) (hcm : c ≤ maxLen) (ha : RdB w.heap.size w A ls)
    (A' : Option Addr) (m d : Nat) (ms : List (List UInt8)) (hm : ms.length = m) (hmd : m ≤ d) (hdm : d ≤ maxLen) (hb : RdB w.heap.size w A' ms) (at_ : Int) (hat : 0 ≤ at_ ∧ at_ ≤ 65535) :
    Calls Try.prog 6 #[.slice A n c, .slice A' m d, .int .u16 at_] w (RetB (.bool true) w) := by
  subst hn; subst hm
  have m1 : ls.length ≤ maxLen := Nat.le_trans hnc hcm
  have m2 : ms.length ≤ maxLen := Nat.le_trans hmd hdm
  have M1 := Lib.hid m1
  have M2 := Lib.hid m2
  unfold maxLen at m1 m2
  by_cases h1 : ls.length ≤ 10
  · by_cases h2 : ms.length ≤ 10
    · go_enter Try.func6, Try.ntmps6
      go_wp2_with fail
      refine (awake_any _).mono ?_
      rintro e w1 ⟨rfl, hb1⟩
      have z1 := hb1.size
      go_wp2_with fail
      go_loopw [7, 8] (fun o i wr => ∃ (k g c1 : Nat), k ≤ ls.length ∧ i = .int .i64 k ∧ o = .slice (some ⟨g, 0, none⟩) (k + 1) c1 ∧ Hid (∀ l ∈ ls.take k, l.length ≤ 300) ∧ Below w.heap.size w wr ∧ wr.ownsRow w.heap.size 3 1 (.slice (some ⟨g, 0, none⟩) (k + 1) c1) (k + 1) (endL ls k)) (fun _ i _ => ls.length - (intOf i).toNat)
      case atStart => exact ⟨0, w1.heap.size, 1, Nat.zero_le _, rfl, rfl, fun l hl => by simp at hl, hb1.alloc z1 _, World.ownsRow_lit w1 #[.int .i64 0] 1 z1 (by unfold maxLen; omega) rfl⟩
      case round =>
        obtain ⟨k, g, c1, hk, rfl, rfl, HT, hbr, how⟩ := hrel
        by_cases hlt : k < ls.length
        · obtain ⟨ad, A1, c2, rfl, hbl, hc0, _, _, _⟩ := ha.at_ hlt
          have hblk : (ad.add k).block < w.heap.size := by rw [add_block]; exact hbl
          have hc := (hbr.cell hblk).trans hc0
          by_cases h3 : ls[k].length ≤ 300
          · have hst := endAt_step hlt
            have HS := Lib.hid (all_take HT.out hlt h3)
            obtain ⟨x, hx⟩ : ∃ x : Nat, x = ls[k].length := ⟨_, rfl⟩
            rw [← hx] at hc h3 hst hc0
            have hZ := endAt_le ls k
            have hfs := frame_size (all_take HT.out hlt (by rw [← hx]; exact h3))
            rw [List.length_take] at hfs
            have hZ2 : endAt ls (k + 1) ≤ 3020 := by
              have h5 : endAt ls (k + 1) = (frameL (ls.take (k + 1))).length := rfl
              rw [h5]; omega
            obtain ⟨Z, hZe⟩ : ∃ Z : Nat, Z = endAt ls k := ⟨_, rfl⟩
            obtain ⟨Z3, hZ3⟩ : ∃ Z3 : Nat, Z3 = endAt ls (k + 1) := ⟨_, rfl⟩
            obtain ⟨Z2, hZ2e⟩ : ∃ Z2 : Nat, Z2 = Z + 2 := ⟨_, rfl⟩
            rw [← hZe, ← hZ3] at hst
            rw [← hZ3] at hZ2
            have w2e : IntKind.i64.wrap ((Z : Int) + 2) = (Z2 : Int) := by rw [IntWalk.i64_in _ (by omega)]; omega
            have w3e : IntKind.i64.wrap ((Z2 : Int) + (x : Int)) = (Z3 : Int) := by rw [IntWalk.i64_in _ (by omega)]; omega
            have he := how.cellAt k (by omega)
            rw [endL_get (Nat.le_refl _), ← hZe] at he
            have HZ3 := Lib.hid hZ3
            have HE := Lib.hid (show (endL ls k)[k]? = some (.int .i64 (Z : Int)) by rw [endL_get (Nat.le_refl _), hZe])
            have hone : ∀ u ∈ [Value.int .i64 (Z3 : Int)], u.oneCell' = true := by intro u hu; simp at hu; subst hu; rfl
            have HC0 := Lib.hid hc0
            have h3' : (x : Int) ≤ 300 := by omega
            have k0 : (0 : Int) ≤ (k : Int) := by omega
            have k1 : (k : Int) < (ls.length : Int) := by omega
            have k2 : (k : Int) < ((k + 1 : Nat) : Int) := by omega
            have k3 : (k : Int) < (k : Int) + 1 := by omega
            have hgw : w.heap.size ≤ g := (how.lt g rfl).1
            have hgl : g < wr.heap.size := (how.lt g rfl).2
            clear hx hZ hfs hZe hZ3 hZ2e hst hc0
            go_wp2_with fail
            go_region_held3 (fun w' => w'.cell? (ad.add k) = some (.slice A1 x c2) ∧ w'.cell? ⟨g, k, none⟩ = some (.int .i64 (Z : Int))) (first | go_keep | exact ⟨(hb8.cell hblk).trans HC0.out, hold k _ HE.out⟩) ((refine step_app_old _ ?_ (.tmp 44) (.tmp 56) 40 ?_ (e := 3) (z := .int .i64 0) (bytes := 8) ?_ (base := w.heap.size) (g := g) (n := k + 1) (cap := c1) (xs := endL ls k) ?_ ?_ (B := wr.heap.size + 1) (m := 1) (c := 1) (A := some ⟨wr.heap.size, 0, none⟩) (news := [.int .i64 (Z3 : Int)]) ?_ ?_ ?_ ?_ ?_ ?_ ?_; rfl; rfl; exact intsElt; rfl; exact how.alloc _; rfl; exact Rd.lit wr 3 _; rfl; exact hone; omega; exact ((hbr.alloc hbr.size _).drew).size; intro A8 c8 w8 how8 hg8 hold; have hb8 : Below w.heap.size w w8 := ((hbr.alloc hbr.size _).drew).grown hg8 ((hbr.alloc hbr.size _).drew).size (fun q hq => by injection hq with hq; omega)))
            obtain ⟨g8, rfl, _, _, _⟩ := own_addr how8 (by omega)
            go_wp2_with fail
            go_roundw
            case rel => exact ⟨k + 1, g8, c8, by omega, by go_num, rfl, HS.out, hb8, by rw [endL_more, ← HZ3.out]; exact how8⟩
            case measure => simp [intOf]; omega
          · have h3' : (300 : Int) < (ls[k].length : Int) := by omega
            go_wp2_with fail
            go_ret
            exact ⟨rfl, hbr⟩
        · obtain rfl : k = ls.length := by omega
          have hall := all_whole HT.out hlt
          have hfs := frame_size hall
          have hF : (frameL ls).length ≤ 3020 := by omega
          have H6 := Lib.hid (show ∀ l ∈ ls, l.length ≤ 65535 from fun l hl => Nat.le_trans (hall l hl) (by omega))
          clear hall hfs HT
          obtain ⟨wo, rfl⟩ : ∃ wo : World, wo = wr := ⟨_, rfl⟩
          go_wp2_with fail
          go_loop [9] (fun j => ∃ q : Nat, q ≤ ms.length ∧ j = .int .i64 q ∧ Hid (∀ l ∈ ms.take q, l.length ≤ 300)) (fun j => ms.length - (intOf j).toNat)
          case atStart => exact ⟨0, Nat.zero_le _, rfl, fun l hl => by simp at hl⟩
          case round =>
            obtain ⟨q, hq, rfl, HT⟩ := hrel
            by_cases hqt : q < ms.length
            · obtain ⟨ad2, A2, c2, rfl, _, hcb, _, _, _⟩ := (hb.below hbr).at_ hqt
              by_cases h60 : (ms[q]).length ≤ 300
              · have h60' : ((ms[q]).length : Int) ≤ 300 := by omega
                go_wp2_with fail
                go_round
                case rel => exact ⟨q + 1, by omega, by go_num, all_take HT.out hqt h60⟩
                case measure => simp [intOf]; omega
              · have h60' : (300 : Int) < ((ms[q]).length : Int) := by omega
                go_wp2_with fail
                go_ret
                exact ⟨rfl, hbr⟩
            · have hall := all_whole HT.out hqt
              have hfs := frame_size hall
              have hG : (frameL ms).length ≤ 3020 := by omega
              have G6 := Lib.hid (show ∀ l ∈ ms, l.length ≤ 65535 from fun l hl => Nat.le_trans (hall l hl) (by omega))
              clear hall hfs HT
              go_wp2_with fail
              refine (wframe_any A _ c ls _ rfl M1.out ((ha.below hbr).more hbr.size) H6.out (by omega)).mono ?_
              rintro e w2 ⟨A2, n2, c2, rfl, ho2, hb2⟩
              obtain rfl : (frameL ls).length = n2 := own_blen ho2
              have b2 := hbr.trans (hb2.mono hbr.size)
              have e2 := own_below how hb2
              go_wp2_with fail
              refine (wframe_any A' _ d ms _ rfl M2.out ((hb.below b2).more b2.size) G6.out (by omega)).mono ?_
              rintro e w3 ⟨A3, n3, c3, rfl, ho3, hb3⟩
              obtain rfl : (frameL ms).length = n3 := own_blen ho3
              have b3 := b2.trans (hb3.mono b2.size)
              have e3 := own_below e2 hb3
              have x2 := own_below ho2 hb3
              clear ho2 hb2 b2 e2 hb3 how
              have hcap := own_cap x2
              have hce := e3.cellAt ls.length (by omega)
              rw [endL_get (Nat.le_refl _), show endAt ls ls.length = (frameL ls).length by rw [endAt, frame_all]] at hce
              obtain ⟨K, hK⟩ : ∃ K : Nat, at_ % (((frameL ls).length : Int) + 1) = (K : Int) := ⟨(at_ % (((frameL ls).length : Int) + 1)).toNat, by have := Int.emod_nonneg at_ (show ((frameL ls).length : Int) + 1 ≠ 0 by omega); omega⟩
              have hKF : K ≤ (frameL ls).length := by have := Int.emod_lt_of_pos at_ (show (0 : Int) < ((frameL ls).length : Int) + 1 by omega); omega
              obtain ⟨t0, t1⟩ := hat
              have k1 : (K : Int) ≤ ((frameL ls).length : Int) := by omega
              have k2 : (K : Int) ≤ (c2 : Int) := by omega
              have k3 : K ≤ c2 := by omega
              go_wp2_with fail
              rw [hK]
              clear hK t0 t1
              by_cases hj : ∃ j, j ≤ ls.length ∧ endAt ls j = K
              · obtain ⟨j, hjl, hjK⟩ := hj
                have HP := Lib.hid (show partsL ((frameL ls).take K) = some (ls.take j) by rw [← hjK]; exact cut_at j H6.out)
                have HJ := Lib.hid hjK
                clear hjK hce
                refine (wparts_some HP.out (by rw [List.length_take]; omega) k3 hcap.2 ((Rd.own x2).take K) (by omega)).mono ?_
                rintro e w4 ⟨A4, c4, vs4, rfl, ho4, hl4, hb4⟩
                have htl : (ls.take j).length = j := by rw [List.length_take]; omega
                have HTL := Lib.hid htl
                have z3 := b3.size
                have e4 := own_below e3 hb4
                have b4 := b3.trans (hb4.mono z3)
                have x4 := own_below x2 hb4
                have y4 := own_below ho3 hb4
                have r4 := (hl4.rdb ho4).2
                have mr4 := own_max ho4
                clear e3 x2 ho3 hl4 ho4 htl b3 hb4
                go_wp2_with fail
                go_loop [17, 18] (fun v i => ∃ (q : Nat) (z : Int), q ≤ ls.length + 1 ∧ i = .int .i64 q ∧ v = .int .i64 z ∧ Hid (z = if j < q then (j : Int) else -1)) (fun _ i => ls.length + 1 - (intOf i).toNat)
                case atStart => exact ⟨0, -1, Nat.zero_le _, rfl, rfl, rfl⟩
                case round =>
                  obtain ⟨q, z, hq, rfl, rfl, HZ⟩ := hrel
                  by_cases hqt : q < ls.length + 1
                  · have hcq := e4.cellAt q (by omega)
                    rw [endL_get (by omega)] at hcq
                    by_cases hqj : q = j
                    · have ht : ((endAt ls q : Int) == (K : Int)) = true := by rw [hqj, HJ.out]; simp
                      have HQJ := Lib.hid hqj
                      clear hqj
                      go_wp2_with fail
                      go_round
                      case rel => exact ⟨q + 1, (q : Int), by omega, by go_num, rfl, by show _ = _; have h := HQJ.out; rw [if_pos (by omega), h]⟩
                      case measure => simp [intOf]; omega
                    · have ht : ((endAt ls q : Int) == (K : Int)) = false := by
                        rw [beq_eq_false_iff_ne]
                        intro h
                        exact hqj (endAt_inj (by omega) hjl (by have h5 := HJ.out; omega))
                      go_wp2_with fail
                      go_round
                      case rel => exact ⟨q + 1, z, by omega, by go_num, rfl, by show _ = _; rw [HZ.out]; split <;> split <;> omega⟩
                      case measure => simp [intOf]; omega
                  · have hz : z = (j : Int) := by rw [HZ.out, if_pos (by omega)]
                    subst hz
                    have j0 : (0 : Int) ≤ (j : Int) := by omega
                    have j1 : (j : Int) ≤ (ls.length : Int) := by omega
                    have j2 : (j : Int) ≤ (c : Int) := by omega
                    have j3 : j ≤ c := by omega
                    clear HZ
                    go_wp2_with fail
                    refine (rows_r (b := true) (xs := ls.take j) (ys := ls.take j) (decide_eq_true rfl) HTL.out HTL.out r4 ((ha.below b4).take j) (by rw [← HTL.out]; exact mr4) (by rw [← HTL.out]; exact mr4)).mono ?_
                    rintro e v5 ⟨rfl, hb5⟩
                    have x5 := own_below x4 hb5
                    have y5 := own_below y4 hb5
                    have b5 := b4.trans (hb5.mono b4.size)
                    clear x4 y4 b4 hb5 r4 e4
                    go_wp2_with (first
                      | (at_builtin; refine wpList_app _ rfl (.tmp 138) (.tmp 139) _ rfl bytesElt (base := v5.heap.size) (v := .slice (some ⟨v5.heap.size, 0, none⟩) 0 0) rfl (World.ownsRow_lit v5 #[] 0 (Nat.le_refl _) (Nat.zero_le _) rfl) (m := (frameL ls).length) rfl ((Rd.own x5).below ((Below.refl _ _).alloc (Nat.le_refl _) _)) (bv_length _) (bv_one _) ?_ ?_ ?_; omega; (simp); intro A6 c6 w6 ho6' hg6 _; have ho6 : w6.ownsRow v5.heap.size 5 1 (.slice A6 (frameL ls).length c6) (frameL ls).length (bv (frameL ls)) := own_eq ho6' (by omega) rfl; have b56 := app_below ((Below.refl v5.heap.size v5).alloc (Nat.le_refl _) _) (World.ownsRow_lit v5 #[] 0 (Nat.le_refl _) (Nat.zero_le _) rfl) hg6 (Nat.le_refl _) (by simp); clear ho6' hg6)
                      | (at_builtin; refine wpList_app _ rfl (.tmp 140) (.tmp 141) _ rfl bytesElt (base := v5.heap.size) (v := .slice A6 (frameL ls).length c6) rfl ho6 (m := (frameL ms).length) rfl ((Rd.own y5).below b56) (bv_length _) (bv_one _) ?_ ?_ ?_; omega; exact b56.size; intro A7 c7 w7 ho7' hg7 _; have b57 := app_below b56 ho6 hg7 (Nat.le_refl _) b56.size; clear hg7))
                    have ho7 : w7.ownsRow v5.heap.size 5 1 (.slice A7 ((frameL ls).length + (frameL ms).length) c7) ((frameL ls).length + (frameL ms).length) (bv (frameL (ls ++ ms))) := own_eq ho7' rfl (by rw [frame_append, bv_append])
                    have q7 := own_cap ho7
                    have HP7 := Lib.hid (parts_frame (ls := ls ++ ms) (fun l hl => by rcases List.mem_append.1 hl with hl | hl; exact H6.out l hl; exact G6.out l hl))
                    have b7 := b5.trans (b57.mono b5.size)
                    clear ho6 ho7' b56 b57 x5 y5
                    refine (wparts_some HP7.out (own_blen ho7) q7.1 q7.2 (Rd.own ho7) (by omega)).mono ?_
                    rintro e w8 ⟨A8, c8, vs8, rfl, ho8, hl8, hb8⟩
                    have b8 := b7.trans (hb8.mono b7.size)
                    have r8 := (hl8.rdb ho8).2
                    have m8 := own_max ho8
                    obtain ⟨us, hul, hur, hu1, hue⟩ := RdB.cells (ha.below b8)
                    obtain ⟨ts, htl, htr, ht1, hte⟩ := RdB.cells (hb.below b8)
                    have z8 := b8.size
                    clear ho8 hl8 hb8 ho7
                    go_wp2_with (first
                      | (at_builtin; refine wpList_app_if _ rfl (.tmp 149) (.tmp 150) _ rfl rowsElt (base := w8.heap.size) (v := .slice (some ⟨w8.heap.size, 0, none⟩) 0 0) rfl (World.ownsRow_lit w8 #[] 0 (Nat.le_refl _) (Nat.zero_le _) rfl) (m := ls.length) rfl ((hur.more z8).below ((Below.refl _ _).alloc (Nat.le_refl _) _)) hul hu1 ?_ ?_ ?_; omega; (simp); intro A9 c9 w9 ho9' hg9 _; have ho9 : w9.ownsRow w8.heap.size 23 1 (.slice A9 ls.length c9) ls.length us := own_eq ho9' (by omega) rfl; have b89 := app_below ((Below.refl w8.heap.size w8).alloc (Nat.le_refl _) _) (World.ownsRow_lit w8 #[] 0 (Nat.le_refl _) (Nat.zero_le _) rfl) hg9 (Nat.le_refl _) (by simp); clear ho9' hg9)
                      | (at_builtin; refine wpList_app_if _ rfl (.tmp 151) (.tmp 152) _ rfl rowsElt (base := w8.heap.size) (v := .slice A9 ls.length c9) rfl ho9 (m := ms.length) rfl ((htr.more z8).below b89) htl ht1 ?_ ?_ ?_; omega; exact b89.size; intro A10 c10 w10 ho10 hg10 _; have b810 := app_below b89 ho9 hg10 (Nat.le_refl _) b89.size; clear hg10))
                    have r10 := rdb_join ho10 hul hue htl hte (b810.mono z8) (Nat.le_trans z8 b810.size)
                    have HLm := Lib.hid (show (ls ++ ms).length = ls.length + ms.length by simp)
                    refine (rows_r (b := true) (xs := ls ++ ms) (ys := ls ++ ms) (decide_eq_true rfl) HLm.out HLm.out (r8.below b810) r10 (by rw [← HLm.out]; exact m8) (own_max ho10)).mono ?_
                    rintro e w11 ⟨rfl, hb11⟩
                    go_wp2_with fail
                    go_ret
                    exact ⟨rfl, (b8.trans (b810.mono z8)).trans (hb11.mono (Nat.le_trans z8 b810.size))⟩
              · have HP := Lib.hid (cut_else ls K H6.out hKF (fun j hjl e => hj ⟨j, hjl, e⟩))
                have HN := Lib.hid (fun j (hjl : j ≤ ls.length) (e : endAt ls j = K) => hj ⟨j, hjl, e⟩)
                clear hj hce
                refine (wparts_none HP.out (by rw [List.length_take]; omega) k3 hcap.2 ((Rd.own x2).take K) (by omega)).mono ?_
                rintro e v5 ⟨rfl, hb4⟩
                have z3 := b3.size
                have e4 := own_below e3 hb4
                have b5 := b3.trans (hb4.mono z3)
                have x5 := own_below x2 hb4
                have y5 := own_below ho3 hb4
                clear e3 x2 ho3 b3 hb4
                go_wp2_with fail
                go_loop [17, 18] (fun v i => ∃ (q : Nat), q ≤ ls.length + 1 ∧ i = .int .i64 q ∧ v = .int .i64 (-1)) (fun _ i => ls.length + 1 - (intOf i).toNat)
                case atStart => exact ⟨0, Nat.zero_le _, rfl, rfl⟩
                case round =>
                  obtain ⟨q, hq, rfl, rfl⟩ := hrel
                  by_cases hqt : q < ls.length + 1
                  · have hcq := e4.cellAt q (by omega)
                    rw [endL_get (by omega)] at hcq
                    have ht : ((endAt ls q : Int) == (K : Int)) = false := by
                      rw [beq_eq_false_iff_ne]
                      intro h
                      exact HN.out q (by omega) (by omega)
                    go_wp2_with fail
                    go_round
                    case rel => exact ⟨q + 1, by omega, by go_num, rfl⟩
                    case measure => simp [intOf]; omega
                  · clear e4
                    go_wp2_with (first
                      | (at_builtin; refine wpList_app _ rfl (.tmp 138) (.tmp 139) _ rfl bytesElt (base := v5.heap.size) (v := .slice (some ⟨v5.heap.size, 0, none⟩) 0 0) rfl (World.ownsRow_lit v5 #[] 0 (Nat.le_refl _) (Nat.zero_le _) rfl) (m := (frameL ls).length) rfl ((Rd.own x5).below ((Below.refl _ _).alloc (Nat.le_refl _) _)) (bv_length _) (bv_one _) ?_ ?_ ?_; omega; (simp); intro A6 c6 w6 ho6' hg6 _; have ho6 : w6.ownsRow v5.heap.size 5 1 (.slice A6 (frameL ls).length c6) (frameL ls).length (bv (frameL ls)) := own_eq ho6' (by omega) rfl; have b56 := app_below ((Below.refl v5.heap.size v5).alloc (Nat.le_refl _) _) (World.ownsRow_lit v5 #[] 0 (Nat.le_refl _) (Nat.zero_le _) rfl) hg6 (Nat.le_refl _) (by simp); clear ho6' hg6)
                      | (at_builtin; refine wpList_app _ rfl (.tmp 140) (.tmp 141) _ rfl bytesElt (base := v5.heap.size) (v := .slice A6 (frameL ls).length c6) rfl ho6 (m := (frameL ms).length) rfl ((Rd.own y5).below b56) (bv_length _) (bv_one _) ?_ ?_ ?_; omega; exact b56.size; intro A7 c7 w7 ho7' hg7 _; have b57 := app_below b56 ho6 hg7 (Nat.le_refl _) b56.size; clear hg7))
                    have ho7 : w7.ownsRow v5.heap.size 5 1 (.slice A7 ((frameL ls).length + (frameL ms).length) c7) ((frameL ls).length + (frameL ms).length) (bv (frameL (ls ++ ms))) := own_eq ho7' rfl (by rw [frame_append, bv_append])
                    have q7 := own_cap ho7
                    have HP7 := Lib.hid (parts_frame (ls := ls ++ ms) (fun l hl => by rcases List.mem_append.1 hl with hl | hl; exact H6.out l hl; exact G6.out l hl))
                    have b7 := b5.trans (b57.mono b5.size)
                    clear ho6 ho7' b56 b57 x5 y5
                    refine (wparts_some HP7.out (own_blen ho7) q7.1 q7.2 (Rd.own ho7) (by omega)).mono ?_
                    rintro e w8 ⟨A8, c8, vs8, rfl, ho8, hl8, hb8⟩
                    have b8 := b7.trans (hb8.mono b7.size)
                    have r8 := (hl8.rdb ho8).2
                    have m8 := own_max ho8
                    obtain ⟨us, hul, hur, hu1, hue⟩ := RdB.cells (ha.below b8)
                    obtain ⟨ts, htl, htr, ht1, hte⟩ := RdB.cells (hb.below b8)
                    have z8 := b8.size
                    clear ho8 hl8 hb8 ho7
                    go_wp2_with (first
                      | (at_builtin; refine wpList_app_if _ rfl (.tmp 149) (.tmp 150) _ rfl rowsElt (base := w8.heap.size) (v := .slice (some ⟨w8.heap.size, 0, none⟩) 0 0) rfl (World.ownsRow_lit w8 #[] 0 (Nat.le_refl _) (Nat.zero_le _) rfl) (m := ls.length) rfl ((hur.more z8).below ((Below.refl _ _).alloc (Nat.le_refl _) _)) hul hu1 ?_ ?_ ?_; omega; (simp); intro A9 c9 w9 ho9' hg9 _; have ho9 : w9.ownsRow w8.heap.size 23 1 (.slice A9 ls.length c9) ls.length us := own_eq ho9' (by omega) rfl; have b89 := app_below ((Below.refl w8.heap.size w8).alloc (Nat.le_refl _) _) (World.ownsRow_lit w8 #[] 0 (Nat.le_refl _) (Nat.zero_le _) rfl) hg9 (Nat.le_refl _) (by simp); clear ho9' hg9)
                      | (at_builtin; refine wpList_app_if _ rfl (.tmp 151) (.tmp 152) _ rfl rowsElt (base := w8.heap.size) (v := .slice A9 ls.length c9) rfl ho9 (m := ms.length) rfl ((htr.more z8).below b89) htl ht1 ?_ ?_ ?_; omega; exact b89.size; intro A10 c10 w10 ho10 hg10 _; have b810 := app_below b89 ho9 hg10 (Nat.le_refl _) b89.size; clear hg10))
                    have r10 := rdb_join ho10 hul hue htl hte (b810.mono z8) (Nat.le_trans z8 b810.size)
                    have HLm := Lib.hid (show (ls ++ ms).length = ls.length + ms.length by simp)
                    refine (rows_r (b := true) (xs := ls ++ ms) (ys := ls ++ ms) (decide_eq_true rfl) HLm.out HLm.out (r8.below b810) r10 (by rw [← HLm.out]; exact m8) (own_max ho10)).mono ?_
                    rintro e w11 ⟨rfl, hb11⟩
                    go_wp2_with fail
                    go_ret
                    exact ⟨rfl, (b8.trans (b810.mono z8)).trans (hb11.mono (Nat.le_trans z8 b810.size))⟩
    · have h2' : (10 : Int) < (ms.length : Int) := by omega
      have h1' : (ls.length : Int) ≤ 10 := by omega
      go_enter Try.func6, Try.ntmps6
      go_wp2_with fail
      refine (awake_any _).mono ?_
      rintro e w1 ⟨rfl, hb1⟩
      go_wp2_with fail
      go_ret
      exact ⟨rfl, hb1⟩
  · have h1' : (10 : Int) < (ls.length : Int) := by omega
    go_enter Try.func6, Try.ntmps6
    go_wp2_with fail
    refine (awake_any _).mono ?_
    rintro e w1 ⟨rfl, hb1⟩
    go_wp2_with fail
    go_ret
    exact ⟨rfl, hb1⟩
theorem wireCuts_own : ownKnob Try.prog.godebug = none := by kernel_rfl
theorem wireCuts_laid : laidOutB Try.prog = true := by kernel_rfl

set_option maxRecDepth 100000 in
theorem wireCuts_lifted (os : Os) (started : os.Started) (H : Type) (enc : TypeId × Value → H) :
    ReturnsInHanded {} Try.checked os 6 .any (Rows.wireCutsSpec.pre6 enc Try.prog Try.f6 Rows.wireCutsRow.domain false) (Rows.wireCutsSpec.post enc Try.prog Try.f6 false true false false) := by
  refine returnsInHanded_of_change (C := Try.checked) wireCuts_own started (by kernel_rfl) Try.func6
    (ChangeSpec.witness6 (enc := enc) (C := Try.checked) false ⟨#[], #[.slice none 0 0, .slice none 0 0, .int .u16 0], []⟩ 8 (by kernel_rfl) (by kernel_rfl) (by kernel_rfl) (by kernel_rfl)) ?_
  intro W base args ds gs before hval0 hW _ _
  have hval : ∀ (j : Nat) t v, Try.f6.params[j]? = some t → args[j]? = some v → Value.okWide Try.prog W .any base t v := hval0
  have hW' := hW
  obtain ⟨p, q, hA0, hV, rfl, hfz, hnd⟩ := hW
  have hA : DataW.TrodAll enc Try.prog W 0 (fun _ => true) true Try.f6.params.toList args.toList ds p := hA0
  rw [Try.params6] at hA hval
  obtain ⟨v0, vs0, d0, ds0, p0, q0, hargs, rfl, rfl, h0, r0⟩ := trodAll_cons hA
  obtain ⟨v1, vs1, d1, ds1, p1, q1, rfl, rfl, rfl, h1, r1⟩ := trodAll_cons r0
  obtain ⟨v2, vs2, d2, ds2, p2, q2, rfl, rfl, rfl, h2, r2⟩ := trodAll_cons r1
  obtain ⟨rfl, rfl, rfl⟩ := trodAll_nil r2
  obtain rfl : args = #[v0, v1, v2] := by cases args; simp_all
  obtain ⟨rfl, rfl⟩ := trodVars_none hV
  obtain ⟨a0, n0, c0, rfl⟩ := okWide_slice Try.underlying31 (hval 0 31 v0 rfl rfl)
  have lt0 : ∀ x ∈ p0, x.block < W.heap.size := by obtain ⟨m, hm⟩ := h0; exact DataW.trod_lt m _ _ _ hm
  obtain ⟨l0, hl0, hc0, hm0, hr0⟩ := open_rows Try.underlying31 Try.underlying23 Try.underlying5 (by kernel_rfl) (by kernel_rfl) h0
  obtain ⟨a1, n1, c1, rfl⟩ := okWide_slice Try.underlying31 (hval 1 31 v1 rfl rfl)
  have lt1 : ∀ x ∈ p1, x.block < W.heap.size := by obtain ⟨m, hm⟩ := h1; exact DataW.trod_lt m _ _ _ hm
  obtain ⟨l1, hl1, hc1, hm1, hr1⟩ := open_rows Try.underlying31 Try.underlying23 Try.underlying5 (by kernel_rfl) (by kernel_rfl) h1
  obtain ⟨a2, rfl, rfl, rfl, w2⟩ := open_int Try.underlying39 (hval 2 39 v2 rfl rfl) h2
  have b2 := bounds_u16 w2
  clear hA0 hval0
  refine (wireCuts_any W a0 n0 c0 l0 hl0 hc0 hm0 hr0 a1 n1 c1 l1 hl1 hc1 hm1 hr1 a2 b2).mono fun e W' ⟨he, bel⟩ => ?_
  subst he
  exact ⟨_, rfl, _, _, _, [], _, [], hW', trodAll_mk1 (shut_bool Try.underlying4 _), (trodAll_cons_mk (Below.trod wireCuts_laid (by kernel_rfl) (of_decide_eq_true (by kernel_rfl)) h0 bel lt0) (trodAll_cons_mk (Below.trod wireCuts_laid (by kernel_rfl) (of_decide_eq_true (by kernel_rfl)) h1 bel lt1) (trodAll_cons_mk (shut_int Try.underlying39 w2) trodAll_mk0))), rfl, bel.frame _, fun h => by cases h⟩

theorem wireCuts_holds : Rows.WireCutsSaid :=
  OpenClaim.holds_of_wide 6 Try.f6 rfl rfl rfl rfl rfl rfl rfl ⟨rfl, rfl, rfl, rfl, rfl⟩ rfl rfl rfl rfl rfl (by kernel_rfl) Try.func6 (by kernel_rfl)
    (of_decide_eq_true (by kernel_rfl)) (by unfold Func.isWrapper; rw [if_neg (of_decide_eq_false (by kernel_rfl))]; exact ⟨rfl, rfl⟩)
    (fun os started H enc _ => wireCuts_lifted os started H enc)

#print axioms wireCuts_holds

end Go.Proofs.Ytafnpgjioehnjaa
