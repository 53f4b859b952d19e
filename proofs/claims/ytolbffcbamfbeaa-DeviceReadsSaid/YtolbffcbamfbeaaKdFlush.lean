/-
  The contract of a device's Flush.
-/
import Derived.Test.YtolbffcbamfbeaaKdWrite
namespace Go.Proofs.Ytolbffcbamfbeaa.Kd
open Go.RowKit Go.Maps
attribute [local go_sem ↓] Go.wp_at_zero Go.wp_at_succ
section
variable {w w2 : World} {p : Nat} {gs bs : List Nat} {S S2 : Sy} {Fs Gs : Nat → Nat → Prop} {F : Nat → Prop} {FA : Option Addr} {fc : Nat} {lf' : Int} {N : Nat}
theorem SysR.fin (h2 : SysR w2 p gs bs S2 Gs FA fc lf') (hF : ∀ q, SysF p bs Fs FA fc N q → F q) (hl : ∀ q, F q → q < w.heap.size) (hlen : S2.ds.length = N) (hg : ∀ i q, i < N → Gs i q → Fs i q ∨ w.heap.size ≤ q) (hb : But F w w2) :
    ∃ F', Sys w2 p gs S2 F' ∧ (∀ q, F' q → F q ∨ w.heap.size ≤ q) ∧ But F w w2 := by
  refine ⟨grow F w w2, ⟨bs, Gs, FA, fc, lf', h2, ?_, ?_⟩, ?_, hb⟩
  · rintro q (h1 | h1 | ⟨i, hi, h1⟩ | ⟨i, hi, h1⟩)
    · exact .inl (hF q (.inl h1))
    · exact .inl (hF q (.inr (.inl h1)))
    · rw [hlen] at hi; exact .inl (hF q (.inr (.inr (.inl ⟨i, hi, h1⟩))))
    · have hq := h2.lt i q hi h1
      rw [hlen] at hi
      rcases hg i q hi h1 with h3 | h3
      · exact .inl (hF q (.inr (.inr (.inr ⟨i, hi, h3⟩))))
      · exact .inr ⟨h3, hq⟩
  · rintro q (h1 | h1)
    · exact Nat.lt_of_lt_of_le (hl q h1) hb.size
    · exact h1.2
  · rintro q (h1 | h1)
    · exact .inl h1
    · exact .inr h1.1
end
theorem settle_at {w : World} {p g : Nat} {d : Dv} {F : Nat → Prop} (h : DevAt w p g d F) (x b : Int) (hx : 0 ≤ x) (hb0 : 0 ≤ b) (hb1 : b ≤ 128) :
    Calls Try.prog 35 #[.pointer (some ⟨g, 0, none⟩), .int .i64 x, .int .i64 b] w (fun e' w' => e' = .returned (.tuple #[]) ∧ DevAt w' p g (d.settle x.toNat b) (grow F w w') ∧ But F w w') := by
  obtain ⟨A, n, c, W, m, e, M, D, h, hF⟩ := h
  refine (settle_any h x b hx hb0 hb1).mono ?_
  rintro e2 w2 ⟨rfl, M', h1, h2, h3⟩
  refine ⟨rfl, ⟨A, n, c, none, 0, 0, M', _, h1, ?_⟩, h3.mono ?_⟩
  · rintro q (rfl | rfl | hq | hq)
    · exact .inl (hF _ (.inl rfl))
    · exact .inr ⟨h2, h1.map.lt⟩
    · exact .inl (hF _ (.inr (.inr (.inl hq))))
    · cases hq
  · rintro q (rfl | hq)
    · exact hF _ (.inl rfl)
    · exact hF _ (.inr (.inr (.inl hq)))
theorem flush_down {S : Sy} {k : Nat} (h : (S.p.off || (S.at k).gone) = true) : S.flush k = (13, S) := by unfold Sy.flush; rw [if_pos h]
theorem flush_fails {S : Sy} {k : Nat} (h : ¬ (S.p.off || (S.at k).gone) = true) (hf : S.p.fails = true) : S.flush k = (13, S.count) := by unfold Sy.flush; rw [if_neg h, if_pos hf]
theorem flush_lies {S : Sy} {k : Nat} (h : ¬ (S.p.off || (S.at k).gone) = true) (hf : S.p.fails = false) (hl : (S.at k).lies = true) : S.flush k = (0, S.count) := by unfold Sy.flush; rw [if_neg h, if_neg (by rw [hf]; simp), if_pos hl]
theorem flush_yes {S : Sy} {k : Nat} (h : ¬ (S.p.off || (S.at k).gone) = true) (hf : S.p.fails = false) (hl : (S.at k).lies = false) : S.flush k = (0, S.count.put k ((S.at k).settle (S.at k).wt.length 0)) := by
  unfold Sy.flush; rw [if_neg h, if_neg (by rw [hf]; simp), if_neg (by rw [hl]; simp)]
  unfold Dv.settle; rw [settle_all (Nat.le_refl _)]
theorem count_at {S : Sy} {k : Nat} (hf : S.p.fails = false) : S.count.at k = S.at k := by unfold Sy.count; rw [hf, if_neg (by simp)]; rfl
set_option maxRecDepth 100000 in
set_option maxHeartbeats 6400000 in
theorem flush_any {w : World} {p : Nat} {gs : List Nat} {S : Sy} {F : Nat → Prop} (h : Sys w p gs S F) (k : Nat) (hk : k < S.ds.length) :
    Calls Try.prog 25 #[.pointer (some ⟨gs.getD k 0, 0, none⟩)] w (RetS (.int .i64 (S.flush k).1) p gs (S.flush k).2 F w) := by
  obtain ⟨bs, Fs, FA, fc, lf, h, hF, hlt⟩ := h
  have H0 := Lib.hid h
  obtain ⟨A, n, c, W, m, e, M, D, hd, hDF⟩ := h.dev k hk
  have HD := Lib.hid hd
  obtain ⟨d, hdd⟩ : ∃ d, d = S.at k := ⟨_, rfl⟩
  obtain ⟨g, hgg⟩ : ∃ g, g = gs.getD k 0 := ⟨_, rfl⟩
  rw [← hdd] at HD
  rw [← hgg] at HD
  rw [← hgg]
  have HDD := Lib.hid hdd
  have HGG := Lib.hid hgg
  have HFF := Lib.hid hF
  have HLT := Lib.hid hlt
  have HKD := Lib.hid hk
  have HPW := Lib.hid H0.out.pow.blk
  have HDB := Lib.hid HD.out.blk
  clear h hd hDF hdd hgg hF hlt hk
  by_cases hr : (S.p.off || d.gone) = true
  · have HW := Lib.hid (flush_down (S := S) (k := k) (by rw [← HDD.out]; exact hr))
    have HR := Lib.hid (show downN S.p.off d.gone = 13 by unfold downN; rw [if_pos hr])
    clear hr
    go_enter Try.func25, Try.ntmps25
    go_wp2_with (refine (runs_any S.p.off d.gone _ _ HPW.out HDB.out).mono ?_; rintro e' w' ⟨rfl, rfl⟩; rw [HR.out])
    go_ret
    refine ⟨by rw [HW.out]; rfl, F, ?_, fun q hq => .inl hq, But.refl _⟩
    rw [HW.out]
    exact ⟨bs, Fs, FA, fc, lf, H0.out, HFF.out, HLT.out⟩
  · have hon : S.p.off = false := by cases h1 : S.p.off <;> simp_all
    have HR := Lib.hid (show downN S.p.off d.gone = 0 by unfold downN; rw [if_neg hr])
    have HRR := Lib.hid (show ¬ (S.p.off || (S.at k).gone) = true by rw [← HDD.out]; exact hr)
    have HON := Lib.hid hon
    have cp := HDB.out.cell 0
    clear hr hon
    go_enter Try.func25, Try.ntmps25
    go_wp2_with (refine (runs_any S.p.off d.gone _ _ HPW.out HDB.out).mono ?_; rintro e' w' ⟨rfl, rfl⟩; rw [HR.out])
    refine (oper_any H0.out HON.out).mono ?_
    rintro e2 w2 ⟨rfl, Gs, lf', hs2, hg2, hb2⟩
    have HS2 := Lib.hid hs2
    have HG2 := Lib.hid hg2
    have HB2 := Lib.hid (show But F w w2 from hb2.mono (fun q hq => by
      rcases hq with h1 | ⟨i, hi, h1⟩
      · exact HFF.out q (.inl h1)
      · exact HFF.out q (.inr (.inr (.inr ⟨i, hi, h1⟩)))))
    obtain ⟨fb, hfb⟩ : ∃ fb, fb = S.p.fails := ⟨_, rfl⟩
    rw [← hfb]
    have HFB := Lib.hid hfb
    clear hs2 hg2 hb2 hfb cp
    cases fb
    · have hdv := HS2.out.dev k (by rw [count_length]; exact HKD.out)
      rw [← HGG.out, count_at HFB.out.symm, ← HDD.out] at hdv
      have HDV := Lib.hid hdv
      obtain ⟨A2, n2, c2, W2, m2, e2, M2, D2, hd2, _⟩ := hdv
      obtain ⟨lb, hlb⟩ : ∃ lb, lb = d.lies := ⟨_, rfl⟩
      have cl : w2.cell? ⟨g, 6, none⟩ = some (.bool lb) := by rw [hlb]; exact hd2.blk.cell 6
      have HLB := Lib.hid hlb
      cases lb
      · have cw : w2.cell? ⟨g, 2, none⟩ = some (.slice W2 m2 e2) := hd2.blk.cell 2
        have HWN := Lib.hid hd2.wtn
        have HW := Lib.hid (flush_yes HRR.out HFB.out.symm (by rw [← HDD.out]; exact HLB.out.symm))
        clear hd2 hlb
        go_wp2_with fail
        refine (settle_at HDV.out (m2 : Int) 0 (by omega) (by omega) (by omega)).mono ?_
        rintro e3 w3 ⟨rfl, hd3, hb3⟩
        have hup := HS2.out.upd (k := k) (by rw [count_length]; exact HKD.out) hb3 (d := d.settle (m2 : Int).toNat 0) (by rw [← HGG.out]; exact hd3)
        have HUP := Lib.hid hup
        have HB3 := Lib.hid hb3
        clear hd3 hb3 hup cl cw
        go_wp2_with fail
        go_ret
        refine ⟨by rw [HW.out]; rfl, ?_⟩
        rw [HW.out, ← HDD.out, HWN.out]
        have hgk : ∀ q, Gs k q → F q ∨ w.heap.size ≤ q := fun q hq => by
          rcases HG2.out k q HKD.out hq with h1 | h1
          · exact .inl (HFF.out q (.inr (.inr (.inr ⟨k, HKD.out, h1⟩))))
          · exact .inr h1
        refine HUP.out.fin HFF.out HLT.out (by rw [len_put, count_length]) (fun i q hi hq => ?_) (but_step HB2.out HB3.out hgk)
        by_cases e : i = k
        · rw [if_pos e] at hq
          subst e
          rcases hq with hq | hq
          · exact HG2.out i q hi hq
          · exact .inr (Nat.le_trans HB2.out.size hq.1)
        · rw [if_neg e] at hq; exact HG2.out i q hi hq
      · have HW := Lib.hid (flush_lies HRR.out HFB.out.symm (by rw [← HDD.out]; exact HLB.out.symm))
        clear hd2 hlb
        go_wp2_with fail
        go_ret
        refine ⟨by rw [HW.out]; rfl, ?_⟩
        rw [HW.out]
        exact HS2.out.fin HFF.out HLT.out (count_length S) HG2.out HB2.out
    · have HW := Lib.hid (flush_fails HRR.out HFB.out.symm)
      go_wp2_with fail
      go_ret
      refine ⟨by rw [HW.out]; rfl, ?_⟩
      rw [HW.out]
      exact HS2.out.fin HFF.out HLT.out (count_length S) HG2.out HB2.out
end Go.Proofs.Ytolbffcbamfbeaa.Kd
