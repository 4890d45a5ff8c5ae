/- The watch. -/
import Derived.Test.YtommhbidkoeifaaGreatClock1
namespace Go.Proofs.YtommhbidkoeifaaGreat
open Go.RowKit
set_option linter.unusedVariables false

set_option maxRecDepth 100000 in
set_option maxHeartbeats 1000000 in
theorem wfeed_any {l : XL} {st : St} {ex : Ext} {w : World} (hr : XRep l st ex w) (hd : DsOk ex.due) (n0 : 0 ≤ ex.now) (n1 : ex.now < 4611686018427387904) :
    Calls Tryz.prog 94 #[.pointer (some ⟨l.wa, 0, none⟩)] w fun e w' => e = .returned (.tuple #[]) ∧ Went l st (feedX ex) w w' := by
  have c1 := hr.c_wck
  have c2 := hr.c_now
  have c4 := hr.c_fed
  have f4 := hr.f_fed
  have hr2 := hr.set_fed ex.now
  have k2 : Kept l.own w (w.setCell ⟨l.wa, 1, none⟩ (.int .i64 ex.now)) := (Kept.refl _ w).wa _ _
  obtain ⟨w2, hw2⟩ : ∃ w2, w2 = w.setCell ⟨l.wa, 1, none⟩ (.int .i64 ex.now) := ⟨_, rfl⟩
  rw [← hw2] at hr2 k2
  have HW : Hid _ := hw2
  clear hw2
  have HC : Hid (∀ W t, Still w2 W → t = ex.now + 251 → Calls Tryz.prog 104 #[.pointer (some ⟨l.ck, 1, none⟩), .iface 117 (.pointer (some ⟨l.wa, 0, none⟩)), .int .i64 t, .int .i64 1] W fun e w' => e = .returned (.tuple #[]) ∧ Went l st (feedX ex) w w' ∧ (w'.cell? ⟨l.wa, 0, none⟩ = some (.pointer (some ⟨l.ck, 0, none⟩)) ∧ w'.cell? ⟨l.wa, 1, none⟩ = some (.int .i64 ex.now))) := fun W t hW ht =>
    (qPut_any (hr2.kept hW (fun _ _ x => x)) true t 1 rfl hd).mono fun e w' ⟨h1, l', g, h2, h3⟩ => by
      have a1 := h2.c_wck
      have a2 := h2.c_fed
      rw [g.wa] at a1 a2
      rw [g.ck] at a1
      rw [ht] at h2
      refine ⟨h1, Went.before (k2.trans (hW.wide (fun _ x => x.elim))) ⟨l', g, h2, h3⟩, a1, a2⟩
  have HS : Hid (∀ W, Still w2 W → W.cell? ⟨l.wa, 0, none⟩ = some (.pointer (some ⟨l.ck, 0, none⟩)) ∧ W.cell? ⟨l.wa, 1, none⟩ = some (.int .i64 ex.now)) := fun W hW =>
    have h := hr2.kept hW (fun _ _ x => x)
    ⟨h.c_wck, h.c_fed⟩
  go_enter Tryz.func94, Tryz.ntmps94
  go_wp2
  rw [← HW.out]
  go_region_held3 (fun W => W.cell? ⟨l.wa, 0, none⟩ = some (.pointer (some ⟨l.ck, 0, none⟩)) ∧ W.cell? ⟨l.wa, 1, none⟩ = some (.int .i64 ex.now)) (first | assumption | (apply HS.out; unfold Still; (repeat (with_reducible first | apply Kept.alloc | apply Kept.drewN | apply Kept.drew | apply Kept.nb | apply Kept.g | apply Kept.bs | apply Kept.ck | apply Kept.bk | apply Kept.tm | apply Kept.wa | apply Kept.po | apply Kept.up | apply Kept.re | apply Kept.me | refine Kept.setCell ?_ (Or.inr (Nat.le_refl _)) _ | refine Kept.setCell ?_ (Or.inr (by omega)) _ | exact k1 | exact k2 | exact k3 | exact Kept.refl _ _)); done) | go_keep) (first | (go_at_call 104; refine (HC.out _ _ (by unfold Still; (repeat (with_reducible first | apply Kept.alloc | apply Kept.drewN | apply Kept.drew | apply Kept.nb | apply Kept.g | apply Kept.bs | apply Kept.ck | apply Kept.bk | apply Kept.tm | apply Kept.wa | apply Kept.po | apply Kept.up | apply Kept.re | apply Kept.me | refine Kept.setCell ?_ (Or.inr (Nat.le_refl _)) _ | refine Kept.setCell ?_ (Or.inr (by omega)) _ | exact k1 | exact k2 | exact k3 | exact Kept.refl _ _))) (by rw [IntKind.wrap_i64, IntKind.wrap_i64]; omega)).mono ?_; rintro e w1 ⟨rfl, went, hkeep⟩))
  all_goals
    go_wp2
    (first | go_end0 | refine bodyPost_ret (results_none rfl _ _ _) rfl ?_)
    exact ⟨rfl, went⟩

set_option maxRecDepth 100000 in
set_option maxHeartbeats 1000000 in
theorem wboot_any {l : XL} {st : St} {ex : Ext} {w : World} (hr : XRep l st ex w) (hd : DsOk ex.due) (n0 : 0 ≤ ex.now) (n1 : ex.now < 4611686018427387904) :
    Calls Tryz.prog 80 #[.pointer (some ⟨l.wa, 0, none⟩)] w fun e w' => e = .returned (.tuple #[]) ∧ Went l { st with window := 0, windowed := false, key := false } (feedX { ex with early := false }) w w' := by
  have c1 := hr.c_wck
  have f1 := (hr.all 6 (by omega) 0 (by decide)).2
  have f1' : w.frozen? ⟨l.wa, 0, none⟩ = false := f1
  have c2 := hr.c_fed
  have f2 := hr.f_fed
  have c3 := hr.c_window
  have f3 := hr.f_window
  have c4 := hr.c_taken
  have f4 := hr.f_taken
  have c5 := hr.c_key
  have f5 := hr.f_key
  have c6 := hr.c_early
  have f6 := hr.f_early
  clear f1
  have hw0 : ∀ W : World, XRep l st ex W → XRep l st ex (W.setCell ⟨l.wa, 0, none⟩ (.pointer (some ⟨l.ck, 0, none⟩))) := fun W hW =>
    hW.put 6 0 (by omega) (by decide) _ (fun i hi => by
      by_cases e : i = 0
      · subst e; rfl
      · rw [if_neg e]) (fun _ _ _ => rfl) rfl
  have hr2 := (((((hw0 w hr).set_fed 0).set_window 0).set_taken false).set_key false).set_early false
  have k2 := ((((((Kept.refl l.own w).wa 0 (.pointer (some ⟨l.ck, 0, none⟩))).wa 1 (.int .i64 0)).wa 2 (.int .u8 0)).wa 3 (.bool false)).wa 4 (.bool false)).wa 5 (.bool false)
  have HR : Hid _ := hr2
  clear hr2 hw0
  go_enter Tryz.func80, Tryz.ntmps80
  go_wp2_with fail
  refine (wfeed_any HR.out hd n0 n1).mono ?_
  rintro e w1 ⟨rfl, went⟩
  have went2 := Went.before k2 went
  go_wp2
  (first | go_end0 | refine bodyPost_ret (results_none rfl _ _ _) rfl ?_)
  exact ⟨rfl, went2⟩

/-- What the keys do to what stands beside. -/
def keyX (st : St) (ex : Ext) (v : Int) : Ext := if v = 105 ∧ st.key = true then (if st.age < st.window then { ex with early := true } else feedX ex) else ex

def offerX (st : St) (ex : Ext) : Ext := if st.age < st.window then { ex with early := true } else feedX ex

set_option maxRecDepth 100000 in
set_option maxHeartbeats 1000000 in
theorem woffer_any {n : Nat} (hn : n < 4611686018427387904) {l : XL} {st : St} {ex : Ext} {w : World} (hr : XRep l st ex w) (hi : Inv st) (hc : Clk n st ex) (hd : DsOk ex.due) :
    Calls Tryz.prog 149 #[.pointer (some ⟨l.wa, 0, none⟩)] w fun e w' => e = .returned (.tuple #[]) ∧ Went l st (offerX st ex) w w' := by
  have hc0 := hc.n0
  have hc1 := hc.n1
  obtain ⟨a0, a1⟩ := hi.age
  obtain ⟨b0, b1⟩ := hi.window
  have HS : Hid (∀ W, Still w W → W.cell? ⟨l.wa, 2, none⟩ = some (.int .u8 st.window)) := fun W hW => (hr.kept hW (fun _ _ x => x)).c_window
  have HC : Hid (∀ W, Still w W → Calls Tryz.prog 55 #[.pointer (some ⟨l.wa, 0, none⟩)] W fun e w' => e = .returned (.int .i64 st.age) ∧ ∃ n, w' = W.drewN n) := fun W hW => wage_any (hr.kept hW (fun _ _ x => x)) hc.n0 (by omega) hc.fd a0 a1
  have HR : Hid (∀ W, Still w W → XRep l st ex W) := fun W hW => hr.kept hW (fun _ _ x => x)
  have hwr : IntKind.i64.wrap st.window = st.window := by rw [IntKind.wrap_i64]; omega
  by_cases hlt : st.age < st.window
  · have HF : Hid (offerX st ex = { ex with early := true }) := by unfold Hid offerX; rw [if_pos hlt]
    have c6 := hr.c_early
    have f6 := hr.f_early
    go_enter Tryz.func149, Tryz.ntmps149
    go_wp2
    go_region_held3 (fun W => W.cell? ⟨l.wa, 2, none⟩ = some (.int .u8 st.window)) (first | (apply HS.out; unfold Still; (repeat (with_reducible first | apply Kept.alloc | apply Kept.drewN | apply Kept.drew | apply Kept.nb | apply Kept.g | apply Kept.bs | apply Kept.ck | apply Kept.bk | apply Kept.tm | apply Kept.wa | apply Kept.po | apply Kept.up | apply Kept.re | apply Kept.me | refine Kept.setCell ?_ (Or.inr (Nat.le_refl _)) _ | refine Kept.setCell ?_ (Or.inr (by omega)) _ | exact k1 | exact k2 | exact k3 | exact Kept.refl _ _)); done) | go_keep) (first | (go_at_call 55; refine (HC.out _ (by unfold Still; (repeat (with_reducible first | apply Kept.alloc | apply Kept.drewN | apply Kept.drew | apply Kept.nb | apply Kept.g | apply Kept.bs | apply Kept.ck | apply Kept.bk | apply Kept.tm | apply Kept.wa | apply Kept.po | apply Kept.up | apply Kept.re | apply Kept.me | refine Kept.setCell ?_ (Or.inr (Nat.le_refl _)) _ | refine Kept.setCell ?_ (Or.inr (by omega)) _ | exact k1 | exact k2 | exact k3 | exact Kept.refl _ _)))).mono ?_; rintro e w1 ⟨rfl, nq, rfl⟩))
    all_goals
      go_wp2
      (first | go_end0 | refine bodyPost_ret (results_none rfl _ _ _) rfl ?_)
      refine ⟨rfl, l, Grew.refl l w, ?_, by (repeat (with_reducible first | apply Kept.alloc | apply Kept.drewN | apply Kept.drew | apply Kept.nb | apply Kept.g | apply Kept.bs | apply Kept.ck | apply Kept.bk | apply Kept.tm | apply Kept.wa | apply Kept.po | apply Kept.up | apply Kept.re | apply Kept.me | refine Kept.setCell ?_ (Or.inr (Nat.le_refl _)) _ | refine Kept.setCell ?_ (Or.inr (by omega)) _ | exact k1 | exact k2 | exact k3 | exact Kept.refl _ _))⟩
      rw [HF.out]
      apply XRep.as ?_ rfl rfl
      (repeat (with_reducible first | apply XRep.alloc | apply XRep.drewN | apply XRep.drew | apply XRep.set_a | apply XRep.set_x | apply XRep.set_pc | apply XRep.set_zero | apply XRep.set_carry | apply XRep.set_ph | apply XRep.set_op | apply XRep.set_addr | apply XRep.set_wait | apply XRep.set_down | apply XRep.set_left | apply XRep.set_now | apply XRep.set_s0 | apply XRep.set_s1 | apply XRep.set_bank | apply XRep.set_period | apply XRep.set_next | apply XRep.set_flag | apply XRep.set_fed | apply XRep.set_window | apply XRep.set_taken | apply XRep.set_key | apply XRep.set_early | apply XRep.set_out | apply XRep.set_inp | apply XRep.set_opn | apply XRep.set_place | apply XRep.set_cause | (apply XRep.other; case hb => exact hfr _ (by omega)) | exact hr | exact hr1 | exact hr2 | exact hr3))
  · have HF : Hid (offerX st ex = feedX ex) := by unfold Hid offerX; rw [if_neg hlt]
    go_enter Tryz.func149, Tryz.ntmps149
    go_wp2
    go_region_held3 (fun W => W.cell? ⟨l.wa, 2, none⟩ = some (.int .u8 st.window)) (first | (apply HS.out; unfold Still; (repeat (with_reducible first | apply Kept.alloc | apply Kept.drewN | apply Kept.drew | apply Kept.nb | apply Kept.g | apply Kept.bs | apply Kept.ck | apply Kept.bk | apply Kept.tm | apply Kept.wa | apply Kept.po | apply Kept.up | apply Kept.re | apply Kept.me | refine Kept.setCell ?_ (Or.inr (Nat.le_refl _)) _ | refine Kept.setCell ?_ (Or.inr (by omega)) _ | exact k1 | exact k2 | exact k3 | exact Kept.refl _ _)); done) | go_keep) (first | (go_at_call 55; refine (HC.out _ (by unfold Still; (repeat (with_reducible first | apply Kept.alloc | apply Kept.drewN | apply Kept.drew | apply Kept.nb | apply Kept.g | apply Kept.bs | apply Kept.ck | apply Kept.bk | apply Kept.tm | apply Kept.wa | apply Kept.po | apply Kept.up | apply Kept.re | apply Kept.me | refine Kept.setCell ?_ (Or.inr (Nat.le_refl _)) _ | refine Kept.setCell ?_ (Or.inr (by omega)) _ | exact k1 | exact k2 | exact k3 | exact Kept.refl _ _)))).mono ?_; rintro e w1 ⟨rfl, nq, rfl⟩))
    all_goals
      go_wp2_with fail
      refine (wfeed_any (HR.out _ (by unfold Still; (repeat (with_reducible first | apply Kept.alloc | apply Kept.drewN | apply Kept.drew | apply Kept.nb | apply Kept.g | apply Kept.bs | apply Kept.ck | apply Kept.bk | apply Kept.tm | apply Kept.wa | apply Kept.po | apply Kept.up | apply Kept.re | apply Kept.me | refine Kept.setCell ?_ (Or.inr (Nat.le_refl _)) _ | refine Kept.setCell ?_ (Or.inr (by omega)) _ | exact k1 | exact k2 | exact k3 | exact Kept.refl _ _)))) hd hc.n0 (by omega)).mono ?_
      rintro e w1 ⟨rfl, went⟩
      go_wp2
      (first | go_end0 | refine bodyPost_ret (results_none rfl _ _ _) rfl ?_)
      refine ⟨rfl, ?_⟩
      rw [HF.out]
      exact Went.before (by (repeat (with_reducible first | apply Kept.alloc | apply Kept.drewN | apply Kept.drew | apply Kept.nb | apply Kept.g | apply Kept.bs | apply Kept.ck | apply Kept.bk | apply Kept.tm | apply Kept.wa | apply Kept.po | apply Kept.up | apply Kept.re | apply Kept.me | refine Kept.setCell ?_ (Or.inr (Nat.le_refl _)) _ | refine Kept.setCell ?_ (Or.inr (by omega)) _ | exact k1 | exact k2 | exact k3 | exact Kept.refl _ _))) went

set_option maxRecDepth 100000 in
set_option maxHeartbeats 1000000 in
theorem wkey_any {n : Nat} (hn : n < 4611686018427387904) {l : XL} {st : St} {ex : Ext} {w : World} (hr : XRep l st ex w) (hi : Inv st) (hc : Clk n st ex) (hd : DsOk ex.due) (v : Int) :
    Calls Tryz.prog 148 #[.pointer (some ⟨l.wa, 0, none⟩), .int .u8 v] w fun e w' => e = .returned (.tuple #[]) ∧ Went l { st with key := (v == 150) } (keyX st ex v) w w' := by
  have c5 := hr.c_key
  have f5 := hr.f_key
  have hfin : ∀ w1 ex1, Went l st ex1 w w1 → w1.cell? ⟨l.wa, 4, none⟩ = some (.bool st.key) ∧ w1.frozen? ⟨l.wa, 4, none⟩ = false ∧ Went l { st with key := (v == 150) } ex1 w (w1.setCell ⟨l.wa, 4, none⟩ (.bool (v == 150))) := fun w1 ex1 ⟨l', g, r, k⟩ => by
    have a := r.c_key
    have b := r.f_key
    have c := r.set_key (v == 150)
    rw [g.wa] at a b c
    exact ⟨a, b, l', g, c, k.wa _ _⟩
  have HFIN : Hid _ := hfin
  clear hfin
  by_cases hk : st.key = true
  · by_cases hv : v = 105
    · have HF : Hid (keyX st ex v = offerX st ex) := by unfold Hid keyX; rw [if_pos ⟨hv, hk⟩]; rfl
      have hv' : (v == 105) = true := by rw [hv]; rfl
      rw [hk] at c5
      clear hv hk
      go_enter Tryz.func148, Tryz.ntmps148
      go_wp2_with fail
      refine (woffer_any hn hr hi hc hd).mono ?_
      rintro e w1 ⟨rfl, went⟩
      obtain ⟨q1, q2, q3⟩ := HFIN.out _ _ went
      go_wp2
      (first | go_end0 | refine bodyPost_ret (results_none rfl _ _ _) rfl ?_)
      refine ⟨rfl, ?_⟩
      rw [HF.out]; exact q3
    · have HF : Hid (keyX st ex v = ex) := by unfold Hid keyX; rw [if_neg (fun x => hv x.1)]
      have hv' : (v == 105) = false := by simpa using hv
      rw [hk] at c5
      have q3 := (HFIN.out w ex ⟨l, Grew.refl l w, hr, Kept.refl _ _⟩).2.2
      clear hv hk
      go_enter Tryz.func148, Tryz.ntmps148
      go_wp2
      (first | go_end0 | refine bodyPost_ret (results_none rfl _ _ _) rfl ?_)
      refine ⟨rfl, ?_⟩
      rw [HF.out]; exact q3
  · have HF : Hid (keyX st ex v = ex) := by unfold Hid keyX; rw [if_neg (fun x => hk x.2)]
    have hk' : st.key = false := by simpa using hk
    rw [hk'] at c5
    have q3 := (HFIN.out w ex ⟨l, Grew.refl l w, hr, Kept.refl _ _⟩).2.2
    clear hk hk'
    go_enter Tryz.func148, Tryz.ntmps148
    go_wp2
    (first | go_end0 | refine bodyPost_ret (results_none rfl _ _ _) rfl ?_)
    refine ⟨rfl, ?_⟩
    rw [HF.out]; exact q3

/-- The window that is taken, or not. -/
def winS (st : St) (v : Int) : St := if st.windowed = false ∧ v ≤ 200 then { st with window := v, windowed := true } else st

set_option maxRecDepth 100000 in
set_option maxHeartbeats 1000000 in
theorem wwin_any {l : XL} {st : St} {ex : Ext} {w : World} (hr : XRep l st ex w) (v : Int) :
    Calls Tryz.prog 147 #[.pointer (some ⟨l.wa, 0, none⟩), .int .u8 v] w fun e w' => e = .returned (.tuple #[]) ∧ Went l (winS st v) ex w w' := by
  have c3 := hr.c_window
  have f3 := hr.f_window
  have c4 := hr.c_taken
  have f4 := hr.f_taken
  have hnot : ∀ (x : Bool) (w : World), (Op.unary .not (.bool x)).run Tryz.prog w = .ok (.bool (!x)) w := fun _ _ => rfl
  by_cases hk : st.windowed = true
  · have HF : Hid (winS st v = st) := by unfold Hid winS; rw [hk]; simp
    rw [hk] at c4
    clear hk
    go_enter Tryz.func147, Tryz.ntmps147
    go_wp2
    (first | go_end0 | refine bodyPost_ret (results_none rfl _ _ _) rfl ?_)
    refine ⟨rfl, l, Grew.refl l w, ?_, Kept.refl _ _⟩
    rw [HF.out]; exact hr
  · have hk' : st.windowed = false := by simpa using hk
    rw [hk'] at c4
    by_cases hv : v ≤ 200
    · have HF : Hid (winS st v = { st with window := v, windowed := true }) := by unfold Hid winS; rw [if_pos ⟨hk', hv⟩]
      clear hk hk'
      go_enter Tryz.func147, Tryz.ntmps147
      go_wp2
      (first | go_end0 | refine bodyPost_ret (results_none rfl _ _ _) rfl ?_)
      refine ⟨rfl, l, Grew.refl l w, ?_, ((Kept.refl _ _).wa _ _).wa _ _⟩
      rw [HF.out]; exact ((hr.set_window _).set_taken _).as rfl rfl
    · have HF : Hid (winS st v = st) := by unfold Hid winS; rw [if_neg (fun x => hv x.2)]
      clear hk hk'
      go_enter Tryz.func147, Tryz.ntmps147
      go_wp2
      (first | go_end0 | refine bodyPost_ret (results_none rfl _ _ _) rfl ?_)
      refine ⟨rfl, l, Grew.refl l w, ?_, Kept.refl _ _⟩
      rw [HF.out]; exact hr

set_option maxRecDepth 100000 in
set_option maxHeartbeats 1000000 in
theorem wwrite_0 {n : Nat} (hn : n < 4611686018427387904) {l : XL} {st : St} {ex : Ext} {w : World} (hr : XRep l st ex w) (hi : Inv st) (hc : Clk n st ex) (hd : DsOk ex.due) (v : Int) :
    Calls Tryz.prog 146 #[.pointer (some ⟨l.wa, 0, none⟩), .int .u8 0, .int .u8 v] w fun e w' => e = .returned (.tuple #[]) ∧ Went l { st with key := (v == 150) } (keyX st ex v) w w' := by
  go_enter Tryz.func146, Tryz.ntmps146
  go_wp2_with fail
  refine (wkey_any hn hr hi hc hd v).mono ?_
  rintro e w1 ⟨rfl, went⟩
  go_wp2
  (first | go_end0 | refine bodyPost_ret (results_none rfl _ _ _) rfl ?_)
  exact ⟨rfl, went⟩

set_option maxRecDepth 100000 in
set_option maxHeartbeats 1000000 in
theorem wwrite_1 {l : XL} {st : St} {ex : Ext} {w : World} (hr : XRep l st ex w) (v : Int) :
    Calls Tryz.prog 146 #[.pointer (some ⟨l.wa, 0, none⟩), .int .u8 1, .int .u8 v] w fun e w' => e = .returned (.tuple #[]) ∧ Went l (winS st v) ex w w' := by
  go_enter Tryz.func146, Tryz.ntmps146
  go_wp2_with fail
  refine (wwin_any hr v).mono ?_
  rintro e w1 ⟨rfl, went⟩
  go_wp2
  (first | go_end0 | refine bodyPost_ret (results_none rfl _ _ _) rfl ?_)
  exact ⟨rfl, went⟩

end Go.Proofs.YtommhbidkoeifaaGreat
