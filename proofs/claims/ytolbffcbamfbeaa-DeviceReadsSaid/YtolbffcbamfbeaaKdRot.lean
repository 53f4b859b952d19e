/-
  The contract of a device's Rot.
-/
import Derived.Test.YtolbffcbamfbeaaKdTell
import Derived.Laws.BitsAllLaws
namespace Go.Proofs.Ytolbffcbamfbeaa.Kd
open Go.RowKit Go.Maps
attribute [local go_sem ↓] Go.wp_at_zero Go.wp_at_succ
theorem bits_xor8 (x y : UInt8) : bits .xor .u8 (x.toNat : Int) (y.toNat : Int) = ((x ^^^ y).toNat : Int) := by
  rw [u8_xor_nat _ _ (UInt8.toNat_lt _) (UInt8.toNat_lt _), UInt8.toNat_xor]
/-- A byte of a sector is put together with a mask. -/
def rotS (s : List UInt8) (a : Nat) (x : UInt8) : List UInt8 := s.set a (s.getD a 0 ^^^ x)
def rotL (st : List (List UInt8)) (n a : Nat) (x : UInt8) : List (List UInt8) := st.set n (rotS (st.getD n zeroS) a x)
def Dv.rot (d : Dv) (n a : Nat) (x : UInt8) : Dv := { d with st := rotL d.st n a x }
theorem rotS_length {s : List UInt8} {a : Nat} {x : UInt8} : (rotS s a x).length = s.length := by rw [rotS, List.length_set]
theorem rotL_length {st : List (List UInt8)} {n a : Nat} {x : UInt8} : (rotL st n a x).length = st.length := by rw [rotL, List.length_set]
theorem rot_ok {d : Dv} (h : d.ok) (n a : Nat) (x : UInt8) : (d.rot n a x).ok := by
  refine ⟨set_ok h.st (by rw [rotS_length]; exact getD_ok h.st n) n, fun w hw => ?_, h.kept, h.bytes, ?_⟩
  · have := h.wt w hw
    refine ⟨?_, this.2⟩
    show w.1 < (rotL d.st n a x).length
    rw [rotL_length]; exact this.1
  · show (rotL d.st n a x).length ≤ 4096
    rw [rotL_length]; exact h.len
theorem svs_rot : ∀ {st : List (List UInt8)} {k a : Nat} {x : UInt8}, (∀ x ∈ st, x.length = 128) → k < st.length → a < 128 → svs (rotL st k a x) = splice (svs st) (k * 128 + a) [.int .u8 (((st.getD k zeroS).getD a 0 ^^^ x).toNat : Int)]
  | [], k, _, _, _, hk, _ => by simp at hk
  | s :: l, 0, a, x, h, _, ha => by
    have hs := h s (by simp)
    have e : bv (rotS s a x) = splice (bv s) a [.int .u8 ((s.getD a 0 ^^^ x).toNat : Int)] := by
      rw [rotS]
      unfold bv splice
      rw [List.map_set, List.set_eq_take_append_cons_drop, if_pos (by rw [List.length_map]; omega)]
      rfl
    show svs ((s :: l).set 0 (rotS s a x)) = _
    rw [List.set_cons_zero, svs, svs, e, Nat.zero_mul, Nat.zero_add, splice_left _ _ _ _ (by rw [bv_length]; simp; omega)]
    rfl
  | s :: l, k + 1, a, x, h, hk, ha => by
    have hs := h s (by simp)
    show svs ((s :: l).set (k + 1) (rotS ((s :: l).getD (k + 1) zeroS) a x)) = _
    rw [List.set_cons_succ, svs, svs, List.getD_cons_succ, show (k + 1) * 128 + a = (bv s).length + (k * 128 + a) by rw [bv_length]; omega, splice_right]
    have h1 := svs_rot (st := l) (k := k) (a := a) (x := x) (fun y hy => h y (by simp [hy])) (by simpa using hk) ha
    rw [show l.set k (rotS (l.getD k zeroS) a x) = rotL l k a x from rfl, h1]
set_option maxRecDepth 100000 in
set_option maxHeartbeats 6400000 in
theorem rot_yes {w : World} {p g : Nat} {d : Dv} {A : Option Addr} {n c : Nat} {W : Option Addr} {m e M : Nat} {D : DataW Unit} (h : DevR w p g d A n c W m e M D) (i a : Nat) (hi : i < n) (ha : a < 128) (x : UInt8) :
    Calls Try.prog 32 #[.pointer (some ⟨g, 0, none⟩), .int .i64 (i : Int), .int .i64 (a : Int), .int .u8 (x.toNat : Int)] w (fun e' w' => e' = .returned (.bool true) ∧ DevR w' p g (d.rot i a x) A n c W m e M D ∧ But (fun q => (Value.slice A n c).ownBlock = some q) w w') := by
  have H := Lib.hid h
  have HDB := Lib.hid h.blk
  have hil : i < d.st.length := by rw [h.stn]; exact hi
  obtain ⟨G, hA⟩ : ∃ G, A = some ⟨G, 0, none⟩ := by
    rcases own_addr8 h.st with ⟨_, h2, _⟩ | h1
    · omega
    · exact h1
  subst hA
  obtain ⟨ad, hA, _, hce⟩ := rd_sec (Rd.ownN h.st) h.ok.st hil
  injection hA with hA
  subst hA
  obtain ⟨y, hy⟩ : ∃ y, y = (d.st.getD i zeroS).getD a 0 := ⟨_, rfl⟩
  have hy3 : (d.st[i]).length = 128 := h.ok.st _ (List.getElem_mem hil)
  have hyc : w.cell? ⟨G, i * 128 + a, none⟩ = some (.int .u8 (y.toNat : Int)) := by
    have h1 := hce a (.int .u8 (y.toNat : Int)) (by
      have e1 : y = d.st[i][a]'(by omega) := by
        have e2 : d.st.getD i zeroS = d.st[i] := by rw [List.getD_eq_getElem?_getD, List.getElem?_eq_getElem hil]; rfl
        rw [hy, e2, List.getD_eq_getElem?_getD, List.getElem?_eq_getElem (by omega)]; rfl
      rw [bv_get (by omega), ← e1])
    rw [add_twice8, Addr.add_mid, Nat.zero_add] at h1
    exact h1
  have HOM := Lib.hid (own_setMid (o := i * 128 + a) (vs := [.int .u8 ((y ^^^ x).toNat : Int)]) h.st (by simp; omega))
  have HX := Lib.hid (bits_xor8 y x)
  have hf : w.frozen? ⟨G, i * 128 + a, none⟩ = false := by
    obtain ⟨Z, hZ, _⟩ := own_cur h.st
    exact hZ.free _
  have i0 : (0 : Int) ≤ (i : Int) := by omega
  have i1 : (i : Int) < (n : Int) := by omega
  have a0 : (0 : Int) ≤ (a : Int) := by omega
  have a1 : (a : Int) < 128 := by omega
  have da : decide ((a : Int) < 0) = false := decide_eq_false (by omega)
  have db : decide ((a : Int) ≥ 128) = false := decide_eq_false (by omega)
  have HH := Lib.hid (show (decide (0 ≤ (i : Int)) && decide ((i : Int) < (n : Int))) = true by rw [decide_eq_true i0, decide_eq_true i1]; rfl)
  have c1 := HDB.out.cell 1
  have HS := Lib.hid (svs_rot (x := x) h.ok.st hil ha)
  have HY := Lib.hid hy
  clear h hil hce hy hy3
  go_enter Try.func32, Try.ntmps32
  go_wp2_with (refine (has_any _ n c (i : Int) HDB.out).mono ?_; rintro e' w' ⟨rfl, rfl⟩; rw [HH.out])
  go_still_tail 13, (by kernel_rfl)
  go_wp2_with fail
  go_ret
  refine ⟨rfl, ?_⟩
  rw [HX.out]
  generalize hwx : World.drew _ = wx
  have hbt : But (fun q => (Value.slice (some ⟨G, 0, none⟩) n c).ownBlock = some q) w wx := by rw [← hwx]; exact (But.setCell (S := fun q => (Value.slice (some ⟨G, 0, none⟩) n c).ownBlock = some q) (But.refl w) (.inl rfl) _).drew
  refine ⟨⟨H.out.blk.but hbt (fun hq => (H.out.apart.2.1 g hq).1 rfl), ?_, Own.but H.out.wt hbt (fun q hq hq' => H.out.apart.2.2.2 q hq' hq), imap_but H.out.map hbt (fun hq => (H.out.apart.2.1 M hq).2 rfl), H.out.last, ?_, H.out.wtn, rot_ok H.out.ok i a x, H.out.idle⟩, hbt⟩
  · show wx.ownsRow 0 38 128 _ n (svs (rotL d.st i a x))
    rw [HS.out, ← HY.out, ← hwx]
    exact HOM.out.1
  · show (rotL d.st i a x).length = n
    rw [rotL_length]; exact H.out.stn
/-- There is such a byte. -/
def hasByte (n : Nat) (i a : Int) : Bool := decide (0 ≤ i) && decide (i < (n : Int)) && decide (0 ≤ a) && decide (a < 128)
set_option maxRecDepth 100000 in
set_option maxHeartbeats 1600000 in
theorem rot_no {w : World} {g : Nat} {PV WV MV KV BV LV GV : Value} (A : Option Addr) (n c : Nat) (i a : Int) (x : UInt8) (hp : Blk w g #[PV, .slice A n c, WV, MV, KV, BV, LV, GV] 74) (h : hasByte n i a = false) :
    Calls Try.prog 32 #[.pointer (some ⟨g, 0, none⟩), .int .i64 i, .int .i64 a, .int .u8 (x.toNat : Int)] w (Ret0 (.bool false) w) := by
  have HP := Lib.hid hp
  clear hp
  by_cases hi : 0 ≤ i ∧ i < (n : Int)
  · have HH := Lib.hid (show (decide (0 ≤ i) && decide (i < (n : Int))) = true by rw [decide_eq_true hi.1, decide_eq_true hi.2]; rfl)
    by_cases ha : a < 0
    · have da : decide (a < 0) = true := decide_eq_true ha
      clear hi ha h
      go_enter Try.func32, Try.ntmps32
      go_wp2_with (refine (has_any A n c i HP.out).mono ?_; rintro e' w' ⟨rfl, rfl⟩; rw [HH.out])
      go_ret
      exact ⟨rfl, rfl⟩
    · have hb : ¬ a < 128 := fun h1 => by
        unfold hasByte at h
        rw [decide_eq_true hi.1, decide_eq_true hi.2, decide_eq_true (show 0 ≤ a by omega), decide_eq_true h1] at h
        cases h
      have da : decide (a < 0) = false := decide_eq_false ha
      have db : decide (a ≥ 128) = true := decide_eq_true (by omega)
      clear hi ha h hb
      go_enter Try.func32, Try.ntmps32
      go_wp2_with (refine (has_any A n c i HP.out).mono ?_; rintro e' w' ⟨rfl, rfl⟩; rw [HH.out])
      go_ret
      exact ⟨rfl, rfl⟩
  · have HH := Lib.hid (show (decide (0 ≤ i) && decide (i < (n : Int))) = false by
      rw [Bool.and_eq_false_iff, decide_eq_false_iff_not, decide_eq_false_iff_not]; omega)
    clear hi h
    go_enter Try.func32, Try.ntmps32
    go_wp2_with (refine (has_any A n c i HP.out).mono ?_; rintro e' w' ⟨rfl, rfl⟩; rw [HH.out])
    go_ret
    exact ⟨rfl, rfl⟩
theorem rot_nil {w : World} (i a : Int) (x : UInt8) : Calls Try.prog 32 #[.pointer none, .int .i64 i, .int .i64 a, .int .u8 (x.toNat : Int)] w (Ret0 (.bool false) w) := by
  go_enter Try.func32, Try.ntmps32
  go_wp2_with (refine (has_nil i).mono ?_; rintro e' w' ⟨rfl, rfl⟩)
  go_ret
  exact ⟨rfl, rfl⟩
/-- Behind Rot. -/
def Sy.rot (S : Sy) (k : Nat) (i a : Int) (x : UInt8) : Sy := if hasByte (S.at k).st.length i a then S.put k ((S.at k).rot i.toNat a.toNat x) else S
theorem rot_sys {w : World} {p : Nat} {gs : List Nat} {S : Sy} {F : Nat → Prop} (h : Sys w p gs S F) (k : Nat) (hk : k < S.ds.length) (i a : Int) (x : UInt8) :
    Calls Try.prog 32 #[.pointer (some ⟨gs.getD k 0, 0, none⟩), .int .i64 i, .int .i64 a, .int .u8 (x.toNat : Int)] w (RetS (.bool (hasByte (S.at k).st.length i a)) p gs (S.rot k i a x) F w) := by
  have h' := h
  obtain ⟨bs, Fs, FA, fc, lf, h, hF, hl⟩ := h
  obtain ⟨A, n, c, W, m, e, M, D, hd, hDF⟩ := h.dev k hk
  unfold Sy.rot
  rw [hd.stn]
  cases hb : hasByte n i a
  · refine (rot_no A n c i a x hd.blk hb).mono ?_
    rintro e2 w2 ⟨rfl, rfl⟩
    exact ⟨rfl, F, h', fun q hq => .inl hq, But.refl _⟩
  · have hb' := hb
    unfold hasByte at hb'
    simp only [Bool.and_eq_true, decide_eq_true_eq] at hb'
    obtain ⟨i, rfl⟩ := Int.eq_ofNat_of_zero_le (show 0 ≤ i by omega)
    obtain ⟨a, rfl⟩ := Int.eq_ofNat_of_zero_le (show 0 ≤ a by omega)
    refine (rot_yes hd i a (by omega) (by omega) x).mono ?_
    rintro e2 w2 ⟨rfl, hd2, hbt⟩
    exact ⟨rfl, h.ret hF hl hk (hbt.mono (fun q e => hDF q (.inr (.inr (.inl e))))) (hd2.grown hDF (fun q hq => hDF q (.inr (.inr (.inr hq)))))⟩
end Go.Proofs.Ytolbffcbamfbeaa.Kd
