/-
  What is told to devices and to power, over all of a power's devices: Tear, Lie, Out, Fail, Restart; what they tell: On, Len, Waiting.
-/
import Derived.Test.YtolbffcbamfbeaaKdReadC
namespace Go.Proofs.Ytolbffcbamfbeaa.Kd
open Go.RowKit Go.Maps
attribute [local go_sem ↓] Go.wp_at_zero Go.wp_at_succ
def Dv.tear (d : Dv) (x y : Int) : Dv := { d with kept := keptN x, bytes := bytesN y }
def Dv.lie (d : Dv) (on : Bool) : Dv := { d with lies := on }
def Dv.out (d : Dv) (on : Bool) : Dv := { d with gone := on, wt := if on then [] else d.wt }
def Sy.fail (S : Sy) (x : Int) : Sy := ⟨⟨S.p.off, failN x⟩, S.ds⟩
def Sy.restart (S : Sy) : Sy := ⟨⟨false, -1⟩, S.ds⟩
section
variable {w w' : World} {p g : Nat} {gs : List Nat} {S : Sy} {F : Nat → Prop} {d d' : Dv} {A W : Option Addr} {n c m e M : Nat} {D : DataW Unit}
theorem DevR.tell (h : DevR w p g d A n c W m e M D) (hb : But (fun q => q = g) w w') (hst : d'.st = d.st) (hwt : d'.wt = d.wt) (hk : 0 ≤ d'.kept) (hby : 0 ≤ d'.bytes ∧ d'.bytes ≤ 128) (hid : d'.gone = true → d'.wt = [])
    (hblk : Blk w' g #[.pointer (some ⟨p, 0, none⟩), .slice A n c, .slice W m e, .map (some M), .int .i64 d'.kept, .int .i64 d'.bytes, .bool d'.lies, .bool d'.gone] 74) : DevR w' p g d' A n c W m e M D :=
  ⟨hblk, by rw [hst]; exact Own.but h.st hb (fun q hq => (h.apart.2.1 q hq).1), by rw [hwt]; exact Own.but h.wt hb (fun q hq => (h.apart.2.2.1 q hq).1), imap_but h.map hb (fun e => h.apart.1 e.symm), by rw [hwt]; exact h.last, by rw [hst]; exact h.stn, by rw [hwt]; exact h.wtn,
    ⟨by rw [hst]; exact h.ok.st, by rw [hst, hwt]; exact h.ok.wt, hk, hby, by rw [hst]; exact h.ok.len⟩, hid⟩
/-- One device's blocks stay its own. -/
theorem DevR.grown (h : DevR w' p g d A n c W m e M D) {W0 : Option Addr} {m0 e0 : Nat} (hF : ∀ q, DevF g A n c W0 m0 e0 M q → F q) (hW : ∀ q, (Value.slice W m e).ownBlock = some q → F q) : DevAt w' p g d (grow F w w') :=
  ⟨A, n, c, W, m, e, M, D, h, by
    rintro q (h1 | h1 | h1 | h1)
    · exact .inl (hF q (.inl h1))
    · exact .inl (hF q (.inr (.inl h1)))
    · exact .inl (hF q (.inr (.inr (.inl h1))))
    · exact .inl (hW q h1)⟩
theorem keptN_ok (x : Int) : 0 ≤ keptN x := by unfold keptN; omega
theorem bytesN_ok (x : Int) : 0 ≤ bytesN x ∧ bytesN x ≤ 128 := by unfold bytesN; omega
theorem tear_sys (h : Sys w p gs S F) (k : Nat) (hk : k < S.ds.length) (x y : Int) :
    Calls Try.prog 27 #[.pointer (some ⟨gs.getD k 0, 0, none⟩), .int .i64 x, .int .i64 y] w (RetS (.tuple #[]) p gs (S.put k ((S.at k).tear x y)) F w) := by
  obtain ⟨bs, Fs, FA, fc, lf, h, hF, hl⟩ := h
  obtain ⟨A, n, c, W, m, e, M, D, hd, hDF⟩ := h.dev k hk
  refine (tear_any (S.at k).kept (S.at k).bytes x y hd.blk).mono ?_
  rintro e2 w2 ⟨rfl, hb, hbt⟩
  have hd2 : DevR w2 p (gs.getD k 0) ((S.at k).tear x y) A n c W m e M D := hd.tell hbt rfl rfl (keptN_ok x) (bytesN_ok y) hd.idle hb
  exact ⟨rfl, h.ret hF hl hk (hbt.mono (fun q e => hDF q (.inl e))) (hd2.grown hDF (fun q hq => hDF q (.inr (.inr (.inr hq)))))⟩
theorem lie_sys (h : Sys w p gs S F) (k : Nat) (hk : k < S.ds.length) (on : Bool) :
    Calls Try.prog 30 #[.pointer (some ⟨gs.getD k 0, 0, none⟩), .bool on] w (RetS (.tuple #[]) p gs (S.put k ((S.at k).lie on)) F w) := by
  obtain ⟨bs, Fs, FA, fc, lf, h, hF, hl⟩ := h
  obtain ⟨A, n, c, W, m, e, M, D, hd, hDF⟩ := h.dev k hk
  refine (lie_any on hd.blk).mono ?_
  rintro e2 w2 ⟨rfl, hb, hbt⟩
  have hd2 : DevR w2 p (gs.getD k 0) ((S.at k).lie on) A n c W m e M D := hd.tell hbt rfl rfl hd.ok.kept hd.ok.bytes hd.idle hb
  exact ⟨rfl, h.ret hF hl hk (hbt.mono (fun q e => hDF q (.inl e))) (hd2.grown hDF (fun q hq => hDF q (.inr (.inr (.inr hq)))))⟩
theorem out_in {PV SV WV MV KV BV LV GV : Value} (hp : Blk w g #[PV, SV, WV, MV, KV, BV, LV, GV] 74) :
    Calls Try.prog 31 #[.pointer (some ⟨g, 0, none⟩), .bool false] w (fun e' w' => e' = .returned (.tuple #[]) ∧ But (fun k => k = g) w w' ∧ Blk w' g #[PV, SV, WV, MV, KV, BV, LV, .bool false] 74) := by
  have HP := Lib.hid hp
  have c7 : w.cell? ⟨g, 7, none⟩ = some GV := hp.cell 7
  have f7 := hp.free 7
  clear hp
  go_enter Try.func31, Try.ntmps31
  go_wp2_with fail
  exact bodyPost_end (results_none Try.results31 _ _ _) rfl ⟨rfl, but_one _, blk_setN8 HP.out 7 _⟩
theorem out_out {PV SV WV MV KV BV LV GV : Value} (hp : Blk w g #[PV, SV, WV, MV, KV, BV, LV, GV] 74) :
    Calls Try.prog 31 #[.pointer (some ⟨g, 0, none⟩), .bool true] w (fun e' w' => e' = .returned (.tuple #[]) ∧ But (fun k => k = g) w w' ∧
      Blk w' g #[PV, SV, .slice none 0 0, .map (some w.heap.size), KV, BV, LV, .bool true] 74 ∧ w'.ownsMap Try.prog 3 (intP Try.prog) w.heap.size 0 (.map [])) := by
  have HP := Lib.hid hp
  have c7 : w.cell? ⟨g, 7, none⟩ = some GV := hp.cell 7
  have f7 := hp.free 7
  have H2 := Lib.hid (show Blk (w.setCell ⟨g, 7, none⟩ (.bool true)) g #[PV, SV, WV, MV, KV, BV, LV, .bool true] 74 from blk_setN8 HP.out 7 _)
  have HZ := Lib.hid (show (w.setCell ⟨g, 7, none⟩ (.bool true)).heap.size = w.heap.size by simp)
  clear hp
  go_enter Try.func31, Try.ntmps31
  go_wp2_with fail
  refine (empty_any _ _ _ _ _ _ _ _ H2.out).mono ?_
  rintro e2 w2 ⟨rfl, hb2, hm2, ht2⟩
  rw [HZ.out] at hb2 hm2
  have E1 := Lib.hid hb2
  have E2 := Lib.hid hm2
  have E3 := Lib.hid ht2
  clear hb2 hm2 ht2 c7 f7
  go_wp2_with fail
  exact bodyPost_end (results_none Try.results31 _ _ _) rfl ⟨rfl, (but_one _).trans E3.out, E1.out, E2.out⟩
theorem out_nil (on : Bool) : Calls Try.prog 31 #[.pointer none, .bool on] w (Ret0 (.tuple #[]) w) := by
  go_enter Try.func31, Try.ntmps31
  go_wp2_with fail
  exact bodyPost_end (results_none Try.results31 _ _ _) rfl ⟨rfl, rfl⟩
theorem out_sys (h : Sys w p gs S F) (k : Nat) (hk : k < S.ds.length) (on : Bool) :
    Calls Try.prog 31 #[.pointer (some ⟨gs.getD k 0, 0, none⟩), .bool on] w (RetS (.tuple #[]) p gs (S.put k ((S.at k).out on)) F w) := by
  obtain ⟨bs, Fs, FA, fc, lf, h, hF, hl⟩ := h
  obtain ⟨A, n, c, W, m, e, M, D, hd, hDF⟩ := h.dev k hk
  cases on
  · refine (out_in hd.blk).mono ?_
    rintro e2 w2 ⟨rfl, hbt, hb⟩
    have hd2 : DevR w2 p (gs.getD k 0) ((S.at k).out false) A n c W m e M D := hd.tell hbt rfl rfl hd.ok.kept hd.ok.bytes (fun e => by cases e) hb
    exact ⟨rfl, h.ret hF hl hk (hbt.mono (fun q e => hDF q (.inl e))) (hd2.grown hDF (fun q hq => hDF q (.inr (.inr (.inr hq)))))⟩
  · refine (out_out hd.blk).mono ?_
    rintro e2 w2 ⟨rfl, hbt, hb, hm⟩
    have hd2 : DevR w2 p (gs.getD k 0) ((S.at k).out true) A n c none 0 0 w.heap.size (.map []) :=
      ⟨hb, Own.but hd.st hbt (fun q hq => (hd.apart.2.1 q hq).1), ⟨rfl, .inl ⟨rfl, rfl⟩⟩, hm, last_empty, hd.stn, rfl, ⟨hd.ok.st, fun x hx => absurd hx List.not_mem_nil, hd.ok.kept, hd.ok.bytes, hd.ok.len⟩, fun _ => rfl⟩
    refine ⟨rfl, h.ret hF hl hk (hbt.mono (fun q e => hDF q (.inl e))) ⟨A, n, c, none, 0, 0, w.heap.size, _, hd2, ?_⟩⟩
    rintro q (h1 | h1 | h1 | h1)
    · exact .inl (hDF q (.inl h1))
    · subst h1; exact .inr ⟨Nat.le_refl _, hm.lt⟩
    · exact .inl (hDF q (.inr (.inr (.inl h1))))
    · cases h1
theorem power_sys {bs : List Nat} {Fs : Nat → Nat → Prop} {FA : Option Addr} {fc : Nat} {lf lf' : Int} {P : Pw} (h : SysR w p gs bs S Fs FA fc lf) (hF : ∀ q, SysF p bs Fs FA fc S.ds.length q → F q) (hl : ∀ q, F q → q < w.heap.size) (hb : But (fun k => k = p) w w') (hp : Blk w' p #[.bool (!P.off), .int .i64 lf', .slice FA bs.length fc] 70) (h1 : P.off = false → lf' = P.left) (h2 : -1 ≤ lf' ∧ lf' ≤ 9223372036854775807) (h3 : -1 ≤ P.left) :
    ∃ F', Sys w' p gs ⟨P, S.ds⟩ F' ∧ (∀ q, F' q → F q ∨ w.heap.size ≤ q) ∧ But F w w' :=
  (h.power hb hp h1 h2 h3 h.row_ne).fin (N := S.ds.length) (Fs := Fs) hF hl rfl (fun _ _ _ hq => .inl hq) (hb.mono (fun q e => hF q (.inl e)))
theorem fail_sys (h : Sys w p gs S F) (x : Int) (hx : x ≤ 9223372036854775807) :
    Calls Try.prog 28 #[.pointer (some ⟨p, 0, none⟩), .int .i64 x] w (RetS (.tuple #[]) p gs (S.fail x) F w) := by
  obtain ⟨bs, Fs, FA, fc, lf, h, hF, hl⟩ := h
  refine (fail_any x _ _ _ h.pow.blk).mono ?_
  rintro e2 w2 ⟨rfl, hb, hbt⟩
  exact ⟨rfl, power_sys (P := ⟨S.p.off, failN x⟩) h hF hl hbt hb (fun _ => rfl) (by unfold failN; omega) (by show -1 ≤ failN x; unfold failN; omega)⟩
theorem restart_sys (h : Sys w p gs S F) : Calls Try.prog 29 #[.pointer (some ⟨p, 0, none⟩)] w (RetS (.tuple #[]) p gs S.restart F w) := by
  obtain ⟨bs, Fs, FA, fc, lf, h, hF, hl⟩ := h
  refine (restart_any _ _ _ h.pow.blk).mono ?_
  rintro e2 w2 ⟨rfl, hb, hbt⟩
  exact ⟨rfl, power_sys (P := ⟨false, -1⟩) h hF hl hbt hb (fun _ => rfl) (by omega) (by show -1 ≤ (-1 : Int); omega)⟩
theorem on_sys (h : Sys w p gs S F) : Calls Try.prog 18 #[.pointer (some ⟨p, 0, none⟩)] w (Ret0 (.bool (!S.p.off)) w) := by
  obtain ⟨bs, Fs, FA, fc, lf, h, hF, hl⟩ := h
  exact on_any _ _ _ h.pow.blk
theorem len_sys (h : Sys w p gs S F) (k : Nat) (hk : k < S.ds.length) : Calls Try.prog 19 #[.pointer (some ⟨gs.getD k 0, 0, none⟩)] w (Ret0 (.int .i64 ((S.at k).st.length : Int)) w) := by
  obtain ⟨bs, Fs, FA, fc, lf, h, hF, hl⟩ := h
  obtain ⟨A, n, c, W, m, e, M, D, hd, hDF⟩ := h.dev k hk
  rw [hd.stn]
  exact len_any A n c hd.blk
theorem waiting_sys (h : Sys w p gs S F) (k : Nat) (hk : k < S.ds.length) : Calls Try.prog 20 #[.pointer (some ⟨gs.getD k 0, 0, none⟩)] w (Ret0 (.int .i64 ((S.at k).wt.length : Int)) w) := by
  obtain ⟨bs, Fs, FA, fc, lf, h, hF, hl⟩ := h
  obtain ⟨A, n, c, W, m, e, M, D, hd, hDF⟩ := h.dev k hk
  rw [hd.wtn]
  exact waiting_any W m e hd.blk
theorem Sys.ok (h : Sys w p gs S F) {k : Nat} (hk : k < S.ds.length) : (S.at k).ok := by
  obtain ⟨bs, Fs, FA, fc, lf, h, hF, hl⟩ := h
  obtain ⟨A, n, c, W, m, e, M, D, hd, hDF⟩ := h.dev k hk
  exact hd.ok
theorem Sys.idle (h : Sys w p gs S F) {k : Nat} (hk : k < S.ds.length) : (S.at k).gone = true → (S.at k).wt = [] := by
  obtain ⟨bs, Fs, FA, fc, lf, h, hF, hl⟩ := h
  obtain ⟨A, n, c, W, m, e, M, D, hd, hDF⟩ := h.dev k hk
  exact hd.idle
end
end Go.Proofs.Ytolbffcbamfbeaa.Kd
