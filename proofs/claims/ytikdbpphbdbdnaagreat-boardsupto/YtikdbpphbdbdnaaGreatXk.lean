/- Of several texts, one behind the other. -/
import Derived.Test.YtikdbpphbdbdnaaGreatXq
import Derived.Test.YtikdbpphbdbdnaaGreatBus
/- The timer and the watch. -/
namespace Go.Proofs.YtikdbpphbdbdnaaGreat
open Go.RowKit
set_option linter.unusedVariables false

/-- Where the board lies behind a call that may have put something into the queue. -/
def Went (l : XL) (st : St) (ex : Ext) (w w' : World) : Prop := ∃ l', Grew l l' w ∧ XRep l' st ex w' ∧ Kept l.own w w'

theorem Grew.tm {l l' : XL} {w : World} (h : Grew l l' w) : l'.tm = l.tm := by obtain ⟨q, cap, rfl, _⟩ := h; rfl
theorem Grew.wa {l l' : XL} {w : World} (h : Grew l l' w) : l'.wa = l.wa := by obtain ⟨q, cap, rfl, _⟩ := h; rfl

theorem Grew.later {l l' : XL} {w0 w : World} (h : Grew l l' w) (hs : w0.heap.size ≤ w.heap.size) : Grew l l' w0 := by
  obtain ⟨q, cap, e, hh⟩ := h
  exact ⟨q, cap, e, fun x hx => (hh x hx).imp id (fun y => Nat.le_trans hs y)⟩

theorem Grew.trans {l l1 l2 : XL} {w w1 : World} (h : Grew l l1 w) (hs : w.heap.size ≤ w1.heap.size) (h2 : Grew l1 l2 w1) : Grew l l2 w := by
  obtain ⟨q, cap, rfl, hh⟩ := h
  obtain ⟨q2, cap2, rfl, hh2⟩ := h2
  refine ⟨q2, cap2, rfl, fun x hx => ?_⟩
  rcases hh2 x hx with y | y
  · exact hh x y
  · exact Or.inr (Nat.le_trans hs y)

theorem Went.before {l : XL} {st : St} {ex : Ext} {w w1 w2 : World} (hk : Kept l.own w w1) (h : Went l st ex w1 w2) : Went l st ex w w2 := by
  obtain ⟨l', g, r, k⟩ := h
  exact ⟨l', g.later hk.size, r, hk.trans k⟩

set_option maxRecDepth 100000 in
set_option maxHeartbeats 1000000 in
theorem twind_any {l : XL} {st : St} {ex : Ext} {w : World} (hr : XRep l st ex w) (hd : DsOk ex.due) (n0 : 0 ≤ ex.now) (n1 : ex.now < 4611686018427387904) (p0 : 0 ≤ st.period) (p1 : st.period ≤ 255) :
    Calls Tryz.prog 107 #[.pointer (some ⟨l.tm, 0, none⟩)] w fun e w' => e = .returned (.tuple #[]) ∧ Went l st { ex with next := ex.now + st.period, due := putD ex.due ⟨false, ex.now + st.period⟩ } w w' := by
  have c1 := hr.c_tck
  have c2 := hr.c_now
  have c3 := hr.c_period
  have c4 := hr.c_next
  have f4 := hr.f_next
  have hr2 := (hr.set_next (ex.now + st.period)).drew
  have k2 : Kept l.own w ((w.setCell ⟨l.tm, 2, none⟩ (.int .i64 (ex.now + st.period))).drew) := ((Kept.refl _ w).tm _ _).drew
  obtain ⟨w2, hw2⟩ : ∃ w2, w2 = (w.setCell ⟨l.tm, 2, none⟩ (.int .i64 (ex.now + st.period))).drew := ⟨_, rfl⟩
  rw [← hw2] at hr2 k2
  have HW : Hid _ := hw2
  clear hw2
  have HC : Hid (∀ W, Still w2 W → Calls Tryz.prog 109 #[.pointer (some ⟨l.ck, 1, none⟩), .iface 116 (.pointer (some ⟨l.tm, 0, none⟩)), .int .i64 (ex.now + st.period), .int .i64 0] W fun e w' => e = .returned (.tuple #[]) ∧ Went l st { ex with next := ex.now + st.period, due := putD ex.due ⟨false, ex.now + st.period⟩ } w w' ∧ (w'.cell? ⟨l.tm, 0, none⟩ = some (.pointer (some ⟨l.ck, 0, none⟩)) ∧ w'.cell? ⟨l.tm, 2, none⟩ = some (.int .i64 (ex.now + st.period)))) := fun W hW =>
    (qPut_any (hr2.kept hW (fun _ _ x => x)) false (ex.now + st.period) 0 rfl hd).mono fun e w' ⟨h1, l', g, h2, h3⟩ => by
      have a1 := h2.c_tck
      have a2 := h2.c_next
      rw [g.tm] at a1 a2
      rw [g.ck] at a1
      refine ⟨h1, Went.before (k2.trans (hW.wide (fun _ x => x.elim))) ⟨l', g, h2, h3⟩, a1, a2⟩
  have HS : Hid (∀ W, Still w2 W → W.cell? ⟨l.tm, 0, none⟩ = some (.pointer (some ⟨l.ck, 0, none⟩)) ∧ W.cell? ⟨l.tm, 2, none⟩ = some (.int .i64 (ex.now + st.period))) := fun W hW =>
    have h := hr2.kept hW (fun _ _ x => x)
    ⟨h.c_tck, h.c_next⟩
  go_enter Tryz.func107, Tryz.ntmps107
  go_wp2
  go_region
  rw [← HW.out]
  go_wp2
  go_region_held3 (fun W => W.cell? ⟨l.tm, 0, none⟩ = some (.pointer (some ⟨l.ck, 0, none⟩)) ∧ W.cell? ⟨l.tm, 2, none⟩ = some (.int .i64 (ex.now + st.period))) (first | assumption | (apply HS.out; unfold Still; (repeat (with_reducible first | apply Kept.alloc | apply Kept.drewN | apply Kept.drew | apply Kept.nb | apply Kept.g | apply Kept.bs | apply Kept.ck | apply Kept.bk | apply Kept.tm | apply Kept.wa | apply Kept.po | apply Kept.up | apply Kept.re | apply Kept.me | refine Kept.setCell ?_ (Or.inr (Nat.le_refl _)) _ | refine Kept.setCell ?_ (Or.inr (by omega)) _ | exact k1 | exact k2 | exact k3 | exact Kept.refl _ _)); done) | go_keep) (first | (go_at_call 109; refine (HC.out _ (by unfold Still; (repeat (with_reducible first | apply Kept.alloc | apply Kept.drewN | apply Kept.drew | apply Kept.nb | apply Kept.g | apply Kept.bs | apply Kept.ck | apply Kept.bk | apply Kept.tm | apply Kept.wa | apply Kept.po | apply Kept.up | apply Kept.re | apply Kept.me | refine Kept.setCell ?_ (Or.inr (Nat.le_refl _)) _ | refine Kept.setCell ?_ (Or.inr (by omega)) _ | exact k1 | exact k2 | exact k3 | exact Kept.refl _ _)))).mono ?_; rintro e w1 ⟨rfl, went, hkeep⟩))
  all_goals
    go_wp2
    (first | go_end0 | refine bodyPost_ret (results_none rfl _ _ _) rfl ?_)
    exact ⟨rfl, went⟩

/-- The timer's time behind a start. -/
def startX (ex : Ext) (p : Int) : Ext := if p = 0 then { ex with due := dropD false ex.due } else { ex with next := ex.now + p, due := putD (dropD false ex.due) ⟨false, ex.now + p⟩ }

theorem dropD_ok (b : Bool) {ds : List Du} (h : DsOk ds) : DsOk (dropD b ds) := by
  rcases dropD_len b h with e | ⟨d, e, _⟩
  · rw [e]; exact Or.inl rfl
  · rw [e]; exact Or.inr (Or.inl ⟨d, rfl⟩)

set_option maxRecDepth 100000 in
set_option maxHeartbeats 1000000 in
theorem tstart_any {l : XL} {st : St} {ex : Ext} {w : World} (hr : XRep l st ex w) (hd : DsOk ex.due) (n0 : 0 ≤ ex.now) (n1 : ex.now < 4611686018427387904) (p : Int) (p0 : 0 ≤ p) (p1 : p ≤ 255) :
    Calls Tryz.prog 98 #[.pointer (some ⟨l.tm, 0, none⟩), .int .u8 p] w fun e w' => e = .returned (.tuple #[]) ∧ Went l { st with period := p, flag := false } (startX ex p) w w' := by
  have c1 := hr.c_tck
  have c3 := hr.c_period
  have f3 := hr.f_period
  have c5 := hr.c_flag
  have f5 := hr.f_flag
  have hr2 := (hr.set_period p).set_flag false
  have k2 : Kept l.own w ((w.setCell ⟨l.tm, 1, none⟩ (.int .u8 p)).setCell ⟨l.tm, 3, none⟩ (.bool false)) := ((Kept.refl _ w).tm _ _).tm _ _
  have HD : Hid (Calls Tryz.prog 108 #[.pointer (some ⟨l.ck, 1, none⟩), .iface 116 (.pointer (some ⟨l.tm, 0, none⟩))] ((w.setCell ⟨l.tm, 1, none⟩ (.int .u8 p)).setCell ⟨l.tm, 3, none⟩ (.bool false)) fun e w' => e = .returned (.tuple #[]) ∧ XRep l { st with period := p, flag := false } { ex with due := dropD false ex.due } w' ∧ Kept l.own ((w.setCell ⟨l.tm, 1, none⟩ (.int .u8 p)).setCell ⟨l.tm, 3, none⟩ (.bool false)) w') := qDrop_any hr2 false hd
  by_cases hp : p = 0
  · have HF : Hid (startX ex p = { ex with due := dropD false ex.due }) := by unfold Hid startX; rw [if_pos hp]
    have hpn : (p != 0) = false := by rw [hp]; rfl
    clear hp
    go_enter Tryz.func98, Tryz.ntmps98
    go_wp2_with fail
    refine Calls.mono HD.out ?_
    rintro e w1 ⟨rfl, hr1, k1⟩
    have k3 := k2.trans k1
    go_wp2
    (first | go_end0 | refine bodyPost_ret (results_none rfl _ _ _) rfl ?_)
    refine ⟨rfl, l, Grew.refl l w, ?_, k3⟩
    rw [HF.out]; exact hr1
  · have HF : Hid (startX ex p = { ex with next := ex.now + p, due := putD (dropD false ex.due) ⟨false, ex.now + p⟩ }) := by unfold Hid startX; rw [if_neg hp]
    have hpn : (p != 0) = true := by rw [bne_iff_ne]; exact hp
    clear hp
    go_enter Tryz.func98, Tryz.ntmps98
    go_wp2_with fail
    refine Calls.mono HD.out ?_
    rintro e w1 ⟨rfl, hr1, k1⟩
    have k3 := k2.trans k1
    go_wp2_with fail
    refine (twind_any hr1 (dropD_ok false hd) n0 n1 p0 p1).mono ?_
    rintro e w3 ⟨rfl, went⟩
    have went2 := Went.before k3 went
    go_wp2
    (first | go_end0 | refine bodyPost_ret (results_none rfl _ _ _) rfl ?_)
    refine ⟨rfl, ?_⟩
    rw [HF.out]; exact went2

set_option maxRecDepth 100000 in
set_option maxHeartbeats 1000000 in
theorem tboot_any {l : XL} {st : St} {ex : Ext} {w : World} (hr : XRep l st ex w) (hd : DsOk ex.due) (n0 : 0 ≤ ex.now) (n1 : ex.now < 4611686018427387904) :
    Calls Tryz.prog 84 #[.pointer (some ⟨l.tm, 0, none⟩)] w fun e w' => e = .returned (.tuple #[]) ∧ Went l { st with period := 0, flag := false } { ex with due := dropD false ex.due } w w' := by
  go_enter Tryz.func84, Tryz.ntmps84
  go_wp2_with fail
  refine (tstart_any hr hd n0 n1 0 (by omega) (by omega)).mono ?_
  rintro e w1 ⟨rfl, went⟩
  go_wp2
  (first | go_end0 | refine bodyPost_ret (results_none rfl _ _ _) rfl ?_)
  exact ⟨rfl, went⟩

set_option maxRecDepth 100000 in
set_option maxHeartbeats 1000000 in
theorem tring_any {l : XL} {st : St} {ex : Ext} {w : World} (hr : XRep l st ex w) (hd : DsOk ex.due) (n0 : 0 ≤ ex.now) (n1 : ex.now < 4611686018427387904) (p0 : 0 ≤ st.period) (p1 : st.period ≤ 255) :
    Calls Tryz.prog 94 #[.pointer (some ⟨l.tm, 0, none⟩)] w fun e w' => e = .returned (.tuple #[]) ∧ Went l { st with flag := true } { ex with next := ex.now + st.period, due := putD ex.due ⟨false, ex.now + st.period⟩ } w w' := by
  have c5 := hr.c_flag
  have f5 := hr.f_flag
  have k2 : Kept l.own w (w.setCell ⟨l.tm, 3, none⟩ (.bool true)) := (Kept.refl _ w).tm _ _
  go_enter Tryz.func94, Tryz.ntmps94
  go_wp2_with fail
  refine (twind_any (hr.set_flag true) hd n0 n1 p0 p1).mono ?_
  rintro e w1 ⟨rfl, went⟩
  have went2 := Went.before k2 went
  go_wp2
  (first | go_end0 | refine bodyPost_ret (results_none rfl _ _ _) rfl ?_)
  exact ⟨rfl, went2⟩

set_option maxRecDepth 100000 in
set_option maxHeartbeats 1000000 in
theorem twrite_0 {l : XL} {st : St} {ex : Ext} {w : World} (hr : XRep l st ex w) (hd : DsOk ex.due) (n0 : 0 ≤ ex.now) (n1 : ex.now < 4611686018427387904) (p : Int) (p0 : 0 ≤ p) (p1 : p ≤ 255) :
    Calls Tryz.prog 149 #[.pointer (some ⟨l.tm, 0, none⟩), .int .u8 0, .int .u8 p] w fun e w' => e = .returned (.tuple #[]) ∧ Went l { st with period := p, flag := false } (startX ex p) w w' := by
  go_enter Tryz.func149, Tryz.ntmps149
  go_wp2_with fail
  refine (tstart_any hr hd n0 n1 p p0 p1).mono ?_
  rintro e w1 ⟨rfl, went⟩
  go_wp2
  (first | go_end0 | refine bodyPost_ret (results_none rfl _ _ _) rfl ?_)
  exact ⟨rfl, went⟩

set_option maxHeartbeats 400000 in
theorem twrite_1 {l : XL} {st : St} {ex : Ext} {w : World} (hr : XRep l st ex w) (v : Int) :
    Calls Tryz.prog 149 #[.pointer (some ⟨l.tm, 0, none⟩), .int .u8 1, .int .u8 v] w fun e w' => e = .returned (.tuple #[]) ∧ Went l st ex w w' := by
  go_enter Tryz.func149, Tryz.ntmps149
  go_wp2
  (first | go_end0 | refine bodyPost_ret (results_none rfl _ _ _) rfl ?_)
  exact ⟨rfl, l, Grew.refl l w, hr, Kept.refl _ _⟩

set_option maxHeartbeats 400000 in
theorem twrite_2 {l : XL} {st : St} {ex : Ext} {w : World} (hr : XRep l st ex w) (v : Int) :
    Calls Tryz.prog 149 #[.pointer (some ⟨l.tm, 0, none⟩), .int .u8 2, .int .u8 v] w fun e w' => e = .returned (.tuple #[]) ∧ Went l { st with flag := false } ex w w' := by
  have c5 := hr.c_flag
  have f5 := hr.f_flag
  go_enter Tryz.func149, Tryz.ntmps149
  go_wp2
  (first | go_end0 | refine bodyPost_ret (results_none rfl _ _ _) rfl ?_)
  exact ⟨rfl, l, Grew.refl l w, hr.set_flag _, (Kept.refl _ _).tm _ _⟩

/-- The watch's time behind a feed. -/
def feedX (ex : Ext) : Ext := { ex with fed := ex.now, due := putD ex.due ⟨true, ex.now + 251⟩ }

end Go.Proofs.YtikdbpphbdbdnaaGreat

/- The watch. -/
namespace Go.Proofs.YtikdbpphbdbdnaaGreat
open Go.RowKit
set_option linter.unusedVariables false

set_option maxRecDepth 100000 in
set_option maxHeartbeats 1000000 in
theorem wfeed_any {l : XL} {st : St} {ex : Ext} {w : World} (hr : XRep l st ex w) (hd : DsOk ex.due) (n0 : 0 ≤ ex.now) (n1 : ex.now < 4611686018427387904) :
    Calls Tryz.prog 99 #[.pointer (some ⟨l.wa, 0, none⟩)] w fun e w' => e = .returned (.tuple #[]) ∧ Went l st (feedX ex) w w' := by
  have c1 := hr.c_wck
  have c2 := hr.c_now
  have c4 := hr.c_fed
  have f4 := hr.f_fed
  have hr2 := hr.set_fed ex.now
  have k2 : Kept l.own w (w.setCell ⟨l.wa, 1, none⟩ (.int .i64 ex.now)) := (Kept.refl _ w).wa _ _
  obtain ⟨w2, hw2⟩ : ∃ w2, w2 = w.setCell ⟨l.wa, 1, none⟩ (.int .i64 ex.now) := ⟨_, rfl⟩
  rw [← hw2] at hr2 k2
  have HW : Hid _ := hw2
  clear hw2
  have HC : Hid (∀ W t, Still w2 W → t = ex.now + 251 → Calls Tryz.prog 109 #[.pointer (some ⟨l.ck, 1, none⟩), .iface 119 (.pointer (some ⟨l.wa, 0, none⟩)), .int .i64 t, .int .i64 1] W fun e w' => e = .returned (.tuple #[]) ∧ Went l st (feedX ex) w w' ∧ (w'.cell? ⟨l.wa, 0, none⟩ = some (.pointer (some ⟨l.ck, 0, none⟩)) ∧ w'.cell? ⟨l.wa, 1, none⟩ = some (.int .i64 ex.now))) := fun W t hW ht =>
    (qPut_any (hr2.kept hW (fun _ _ x => x)) true t 1 rfl hd).mono fun e w' ⟨h1, l', g, h2, h3⟩ => by
      have a1 := h2.c_wck
      have a2 := h2.c_fed
      rw [g.wa] at a1 a2
      rw [g.ck] at a1
      rw [ht] at h2
      refine ⟨h1, Went.before (k2.trans (hW.wide (fun _ x => x.elim))) ⟨l', g, h2, h3⟩, a1, a2⟩
  have HS : Hid (∀ W, Still w2 W → W.cell? ⟨l.wa, 0, none⟩ = some (.pointer (some ⟨l.ck, 0, none⟩)) ∧ W.cell? ⟨l.wa, 1, none⟩ = some (.int .i64 ex.now)) := fun W hW =>
    have h := hr2.kept hW (fun _ _ x => x)
    ⟨h.c_wck, h.c_fed⟩
  go_enter Tryz.func99, Tryz.ntmps99
  go_wp2
  rw [← HW.out]
  go_region_held3 (fun W => W.cell? ⟨l.wa, 0, none⟩ = some (.pointer (some ⟨l.ck, 0, none⟩)) ∧ W.cell? ⟨l.wa, 1, none⟩ = some (.int .i64 ex.now)) (first | assumption | (apply HS.out; unfold Still; (repeat (with_reducible first | apply Kept.alloc | apply Kept.drewN | apply Kept.drew | apply Kept.nb | apply Kept.g | apply Kept.bs | apply Kept.ck | apply Kept.bk | apply Kept.tm | apply Kept.wa | apply Kept.po | apply Kept.up | apply Kept.re | apply Kept.me | refine Kept.setCell ?_ (Or.inr (Nat.le_refl _)) _ | refine Kept.setCell ?_ (Or.inr (by omega)) _ | exact k1 | exact k2 | exact k3 | exact Kept.refl _ _)); done) | go_keep) (first | (go_at_call 109; refine (HC.out _ _ (by unfold Still; (repeat (with_reducible first | apply Kept.alloc | apply Kept.drewN | apply Kept.drew | apply Kept.nb | apply Kept.g | apply Kept.bs | apply Kept.ck | apply Kept.bk | apply Kept.tm | apply Kept.wa | apply Kept.po | apply Kept.up | apply Kept.re | apply Kept.me | refine Kept.setCell ?_ (Or.inr (Nat.le_refl _)) _ | refine Kept.setCell ?_ (Or.inr (by omega)) _ | exact k1 | exact k2 | exact k3 | exact Kept.refl _ _))) (by rw [IntKind.wrap_i64, IntKind.wrap_i64]; omega)).mono ?_; rintro e w1 ⟨rfl, went, hkeep⟩))
  all_goals
    go_wp2
    (first | go_end0 | refine bodyPost_ret (results_none rfl _ _ _) rfl ?_)
    exact ⟨rfl, went⟩

set_option maxRecDepth 100000 in
set_option maxHeartbeats 1000000 in
theorem wboot_any {l : XL} {st : St} {ex : Ext} {w : World} (hr : XRep l st ex w) (hd : DsOk ex.due) (n0 : 0 ≤ ex.now) (n1 : ex.now < 4611686018427387904) :
    Calls Tryz.prog 85 #[.pointer (some ⟨l.wa, 0, none⟩)] w fun e w' => e = .returned (.tuple #[]) ∧ Went l { st with window := 0, windowed := false, key := false } (feedX { ex with early := false }) w w' := by
  have c1 := hr.c_wck
  have f1 := (hr.all 6 (by omega) 0 (by decide)).2
  have f1' : w.frozen? ⟨l.wa, 0, none⟩ = false := f1
  have c2 := hr.c_fed
  have f2 := hr.f_fed
  have c3 := hr.c_window
  have f3 := hr.f_window
  have c4 := hr.c_taken
  have f4 := hr.f_taken
  have c5 := hr.c_key
  have f5 := hr.f_key
  have c6 := hr.c_early
  have f6 := hr.f_early
  clear f1
  have hw0 : ∀ W : World, XRep l st ex W → XRep l st ex (W.setCell ⟨l.wa, 0, none⟩ (.pointer (some ⟨l.ck, 0, none⟩))) := fun W hW =>
    hW.put 6 0 (by omega) (by decide) _ (fun i hi => by
      by_cases e : i = 0
      · subst e; rfl
      · rw [if_neg e]) (fun _ _ _ => rfl) rfl
  have hr2 := (((((hw0 w hr).set_fed 0).set_window 0).set_taken false).set_key false).set_early false
  have k2 := ((((((Kept.refl l.own w).wa 0 (.pointer (some ⟨l.ck, 0, none⟩))).wa 1 (.int .i64 0)).wa 2 (.int .u8 0)).wa 3 (.bool false)).wa 4 (.bool false)).wa 5 (.bool false)
  have HR : Hid _ := hr2
  clear hr2 hw0
  go_enter Tryz.func85, Tryz.ntmps85
  go_wp2_with fail
  refine (wfeed_any HR.out hd n0 n1).mono ?_
  rintro e w1 ⟨rfl, went⟩
  have went2 := Went.before k2 went
  go_wp2
  (first | go_end0 | refine bodyPost_ret (results_none rfl _ _ _) rfl ?_)
  exact ⟨rfl, went2⟩

/-- What the keys do to what stands beside. -/
def keyX (st : St) (ex : Ext) (v : Int) : Ext := if v = 105 ∧ st.key = true then (if st.age < st.window then { ex with early := true } else feedX ex) else ex

def offerX (st : St) (ex : Ext) : Ext := if st.age < st.window then { ex with early := true } else feedX ex

set_option maxRecDepth 100000 in
set_option maxHeartbeats 1000000 in
theorem woffer_any {n : Nat} (hn : n < 4611686018427387904) {l : XL} {st : St} {ex : Ext} {w : World} (hr : XRep l st ex w) (hi : Inv st) (hc : Clk n st ex) (hd : DsOk ex.due) :
    Calls Tryz.prog 154 #[.pointer (some ⟨l.wa, 0, none⟩)] w fun e w' => e = .returned (.tuple #[]) ∧ Went l st (offerX st ex) w w' := by
  have hc0 := hc.n0
  have hc1 := hc.n1
  obtain ⟨a0, a1⟩ := hi.age
  obtain ⟨b0, b1⟩ := hi.window
  have HS : Hid (∀ W, Still w W → W.cell? ⟨l.wa, 2, none⟩ = some (.int .u8 st.window)) := fun W hW => (hr.kept hW (fun _ _ x => x)).c_window
  have HC : Hid (∀ W, Still w W → Calls Tryz.prog 60 #[.pointer (some ⟨l.wa, 0, none⟩)] W fun e w' => e = .returned (.int .i64 st.age) ∧ ∃ n, w' = W.drewN n) := fun W hW => wage_any (hr.kept hW (fun _ _ x => x)) hc.n0 (by omega) hc.fd a0 a1
  have HR : Hid (∀ W, Still w W → XRep l st ex W) := fun W hW => hr.kept hW (fun _ _ x => x)
  have hwr : IntKind.i64.wrap st.window = st.window := by rw [IntKind.wrap_i64]; omega
  by_cases hlt : st.age < st.window
  · have HF : Hid (offerX st ex = { ex with early := true }) := by unfold Hid offerX; rw [if_pos hlt]
    have c6 := hr.c_early
    have f6 := hr.f_early
    go_enter Tryz.func154, Tryz.ntmps154
    go_wp2
    go_region_held3 (fun W => W.cell? ⟨l.wa, 2, none⟩ = some (.int .u8 st.window)) (first | (apply HS.out; unfold Still; (repeat (with_reducible first | apply Kept.alloc | apply Kept.drewN | apply Kept.drew | apply Kept.nb | apply Kept.g | apply Kept.bs | apply Kept.ck | apply Kept.bk | apply Kept.tm | apply Kept.wa | apply Kept.po | apply Kept.up | apply Kept.re | apply Kept.me | refine Kept.setCell ?_ (Or.inr (Nat.le_refl _)) _ | refine Kept.setCell ?_ (Or.inr (by omega)) _ | exact k1 | exact k2 | exact k3 | exact Kept.refl _ _)); done) | go_keep) (first | (go_at_call 60; refine (HC.out _ (by unfold Still; (repeat (with_reducible first | apply Kept.alloc | apply Kept.drewN | apply Kept.drew | apply Kept.nb | apply Kept.g | apply Kept.bs | apply Kept.ck | apply Kept.bk | apply Kept.tm | apply Kept.wa | apply Kept.po | apply Kept.up | apply Kept.re | apply Kept.me | refine Kept.setCell ?_ (Or.inr (Nat.le_refl _)) _ | refine Kept.setCell ?_ (Or.inr (by omega)) _ | exact k1 | exact k2 | exact k3 | exact Kept.refl _ _)))).mono ?_; rintro e w1 ⟨rfl, nq, rfl⟩))
    all_goals
      go_wp2
      (first | go_end0 | refine bodyPost_ret (results_none rfl _ _ _) rfl ?_)
      refine ⟨rfl, l, Grew.refl l w, ?_, by (repeat (with_reducible first | apply Kept.alloc | apply Kept.drewN | apply Kept.drew | apply Kept.nb | apply Kept.g | apply Kept.bs | apply Kept.ck | apply Kept.bk | apply Kept.tm | apply Kept.wa | apply Kept.po | apply Kept.up | apply Kept.re | apply Kept.me | refine Kept.setCell ?_ (Or.inr (Nat.le_refl _)) _ | refine Kept.setCell ?_ (Or.inr (by omega)) _ | exact k1 | exact k2 | exact k3 | exact Kept.refl _ _))⟩
      rw [HF.out]
      apply XRep.as ?_ rfl rfl
      (repeat (with_reducible first | apply XRep.alloc | apply XRep.drewN | apply XRep.drew | apply XRep.set_a | apply XRep.set_x | apply XRep.set_pc | apply XRep.set_zero | apply XRep.set_carry | apply XRep.set_ph | apply XRep.set_op | apply XRep.set_addr | apply XRep.set_wait | apply XRep.set_down | apply XRep.set_left | apply XRep.set_now | apply XRep.set_s0 | apply XRep.set_s1 | apply XRep.set_bank | apply XRep.set_period | apply XRep.set_next | apply XRep.set_flag | apply XRep.set_fed | apply XRep.set_window | apply XRep.set_taken | apply XRep.set_key | apply XRep.set_early | apply XRep.set_out | apply XRep.set_inp | apply XRep.set_opn | apply XRep.set_place | apply XRep.set_cause | (apply XRep.other; case hb => exact hfr _ (by omega)) | exact hr | exact hr1 | exact hr2 | exact hr3))
  · have HF : Hid (offerX st ex = feedX ex) := by unfold Hid offerX; rw [if_neg hlt]
    go_enter Tryz.func154, Tryz.ntmps154
    go_wp2
    go_region_held3 (fun W => W.cell? ⟨l.wa, 2, none⟩ = some (.int .u8 st.window)) (first | (apply HS.out; unfold Still; (repeat (with_reducible first | apply Kept.alloc | apply Kept.drewN | apply Kept.drew | apply Kept.nb | apply Kept.g | apply Kept.bs | apply Kept.ck | apply Kept.bk | apply Kept.tm | apply Kept.wa | apply Kept.po | apply Kept.up | apply Kept.re | apply Kept.me | refine Kept.setCell ?_ (Or.inr (Nat.le_refl _)) _ | refine Kept.setCell ?_ (Or.inr (by omega)) _ | exact k1 | exact k2 | exact k3 | exact Kept.refl _ _)); done) | go_keep) (first | (go_at_call 60; refine (HC.out _ (by unfold Still; (repeat (with_reducible first | apply Kept.alloc | apply Kept.drewN | apply Kept.drew | apply Kept.nb | apply Kept.g | apply Kept.bs | apply Kept.ck | apply Kept.bk | apply Kept.tm | apply Kept.wa | apply Kept.po | apply Kept.up | apply Kept.re | apply Kept.me | refine Kept.setCell ?_ (Or.inr (Nat.le_refl _)) _ | refine Kept.setCell ?_ (Or.inr (by omega)) _ | exact k1 | exact k2 | exact k3 | exact Kept.refl _ _)))).mono ?_; rintro e w1 ⟨rfl, nq, rfl⟩))
    all_goals
      go_wp2_with fail
      refine (wfeed_any (HR.out _ (by unfold Still; (repeat (with_reducible first | apply Kept.alloc | apply Kept.drewN | apply Kept.drew | apply Kept.nb | apply Kept.g | apply Kept.bs | apply Kept.ck | apply Kept.bk | apply Kept.tm | apply Kept.wa | apply Kept.po | apply Kept.up | apply Kept.re | apply Kept.me | refine Kept.setCell ?_ (Or.inr (Nat.le_refl _)) _ | refine Kept.setCell ?_ (Or.inr (by omega)) _ | exact k1 | exact k2 | exact k3 | exact Kept.refl _ _)))) hd hc.n0 (by omega)).mono ?_
      rintro e w1 ⟨rfl, went⟩
      go_wp2
      (first | go_end0 | refine bodyPost_ret (results_none rfl _ _ _) rfl ?_)
      refine ⟨rfl, ?_⟩
      rw [HF.out]
      exact Went.before (by (repeat (with_reducible first | apply Kept.alloc | apply Kept.drewN | apply Kept.drew | apply Kept.nb | apply Kept.g | apply Kept.bs | apply Kept.ck | apply Kept.bk | apply Kept.tm | apply Kept.wa | apply Kept.po | apply Kept.up | apply Kept.re | apply Kept.me | refine Kept.setCell ?_ (Or.inr (Nat.le_refl _)) _ | refine Kept.setCell ?_ (Or.inr (by omega)) _ | exact k1 | exact k2 | exact k3 | exact Kept.refl _ _))) went

set_option maxRecDepth 100000 in
set_option maxHeartbeats 1000000 in
theorem wkey_any {n : Nat} (hn : n < 4611686018427387904) {l : XL} {st : St} {ex : Ext} {w : World} (hr : XRep l st ex w) (hi : Inv st) (hc : Clk n st ex) (hd : DsOk ex.due) (v : Int) :
    Calls Tryz.prog 153 #[.pointer (some ⟨l.wa, 0, none⟩), .int .u8 v] w fun e w' => e = .returned (.tuple #[]) ∧ Went l { st with key := (v == 150) } (keyX st ex v) w w' := by
  have c5 := hr.c_key
  have f5 := hr.f_key
  have hfin : ∀ w1 ex1, Went l st ex1 w w1 → w1.cell? ⟨l.wa, 4, none⟩ = some (.bool st.key) ∧ w1.frozen? ⟨l.wa, 4, none⟩ = false ∧ Went l { st with key := (v == 150) } ex1 w (w1.setCell ⟨l.wa, 4, none⟩ (.bool (v == 150))) := fun w1 ex1 ⟨l', g, r, k⟩ => by
    have a := r.c_key
    have b := r.f_key
    have c := r.set_key (v == 150)
    rw [g.wa] at a b c
    exact ⟨a, b, l', g, c, k.wa _ _⟩
  have HFIN : Hid _ := hfin
  clear hfin
  by_cases hk : st.key = true
  · by_cases hv : v = 105
    · have HF : Hid (keyX st ex v = offerX st ex) := by unfold Hid keyX; rw [if_pos ⟨hv, hk⟩]; rfl
      have hv' : (v == 105) = true := by rw [hv]; rfl
      rw [hk] at c5
      clear hv hk
      go_enter Tryz.func153, Tryz.ntmps153
      go_wp2_with fail
      refine (woffer_any hn hr hi hc hd).mono ?_
      rintro e w1 ⟨rfl, went⟩
      obtain ⟨q1, q2, q3⟩ := HFIN.out _ _ went
      go_wp2
      (first | go_end0 | refine bodyPost_ret (results_none rfl _ _ _) rfl ?_)
      refine ⟨rfl, ?_⟩
      rw [HF.out]; exact q3
    · have HF : Hid (keyX st ex v = ex) := by unfold Hid keyX; rw [if_neg (fun x => hv x.1)]
      have hv' : (v == 105) = false := by simpa using hv
      rw [hk] at c5
      have q3 := (HFIN.out w ex ⟨l, Grew.refl l w, hr, Kept.refl _ _⟩).2.2
      clear hv hk
      go_enter Tryz.func153, Tryz.ntmps153
      go_wp2
      (first | go_end0 | refine bodyPost_ret (results_none rfl _ _ _) rfl ?_)
      refine ⟨rfl, ?_⟩
      rw [HF.out]; exact q3
  · have HF : Hid (keyX st ex v = ex) := by unfold Hid keyX; rw [if_neg (fun x => hk x.2)]
    have hk' : st.key = false := by simpa using hk
    rw [hk'] at c5
    have q3 := (HFIN.out w ex ⟨l, Grew.refl l w, hr, Kept.refl _ _⟩).2.2
    clear hk hk'
    go_enter Tryz.func153, Tryz.ntmps153
    go_wp2
    (first | go_end0 | refine bodyPost_ret (results_none rfl _ _ _) rfl ?_)
    refine ⟨rfl, ?_⟩
    rw [HF.out]; exact q3

/-- The window that is taken, or not. -/
def winS (st : St) (v : Int) : St := if st.windowed = false ∧ v ≤ 200 then { st with window := v, windowed := true } else st

set_option maxRecDepth 100000 in
set_option maxHeartbeats 1000000 in
theorem wwin_any {l : XL} {st : St} {ex : Ext} {w : World} (hr : XRep l st ex w) (v : Int) :
    Calls Tryz.prog 152 #[.pointer (some ⟨l.wa, 0, none⟩), .int .u8 v] w fun e w' => e = .returned (.tuple #[]) ∧ Went l (winS st v) ex w w' := by
  have c3 := hr.c_window
  have f3 := hr.f_window
  have c4 := hr.c_taken
  have f4 := hr.f_taken
  have hnot : ∀ (x : Bool) (w : World), (Op.unary .not (.bool x)).run Tryz.prog w = .ok (.bool (!x)) w := fun _ _ => rfl
  by_cases hk : st.windowed = true
  · have HF : Hid (winS st v = st) := by unfold Hid winS; rw [hk]; simp
    rw [hk] at c4
    clear hk
    go_enter Tryz.func152, Tryz.ntmps152
    go_wp2
    (first | go_end0 | refine bodyPost_ret (results_none rfl _ _ _) rfl ?_)
    refine ⟨rfl, l, Grew.refl l w, ?_, Kept.refl _ _⟩
    rw [HF.out]; exact hr
  · have hk' : st.windowed = false := by simpa using hk
    rw [hk'] at c4
    by_cases hv : v ≤ 200
    · have HF : Hid (winS st v = { st with window := v, windowed := true }) := by unfold Hid winS; rw [if_pos ⟨hk', hv⟩]
      clear hk hk'
      go_enter Tryz.func152, Tryz.ntmps152
      go_wp2
      (first | go_end0 | refine bodyPost_ret (results_none rfl _ _ _) rfl ?_)
      refine ⟨rfl, l, Grew.refl l w, ?_, ((Kept.refl _ _).wa _ _).wa _ _⟩
      rw [HF.out]; exact ((hr.set_window _).set_taken _).as rfl rfl
    · have HF : Hid (winS st v = st) := by unfold Hid winS; rw [if_neg (fun x => hv x.2)]
      clear hk hk'
      go_enter Tryz.func152, Tryz.ntmps152
      go_wp2
      (first | go_end0 | refine bodyPost_ret (results_none rfl _ _ _) rfl ?_)
      refine ⟨rfl, l, Grew.refl l w, ?_, Kept.refl _ _⟩
      rw [HF.out]; exact hr

set_option maxRecDepth 100000 in
set_option maxHeartbeats 1000000 in
theorem wwrite_0 {n : Nat} (hn : n < 4611686018427387904) {l : XL} {st : St} {ex : Ext} {w : World} (hr : XRep l st ex w) (hi : Inv st) (hc : Clk n st ex) (hd : DsOk ex.due) (v : Int) :
    Calls Tryz.prog 151 #[.pointer (some ⟨l.wa, 0, none⟩), .int .u8 0, .int .u8 v] w fun e w' => e = .returned (.tuple #[]) ∧ Went l { st with key := (v == 150) } (keyX st ex v) w w' := by
  go_enter Tryz.func151, Tryz.ntmps151
  go_wp2_with fail
  refine (wkey_any hn hr hi hc hd v).mono ?_
  rintro e w1 ⟨rfl, went⟩
  go_wp2
  (first | go_end0 | refine bodyPost_ret (results_none rfl _ _ _) rfl ?_)
  exact ⟨rfl, went⟩

set_option maxRecDepth 100000 in
set_option maxHeartbeats 1000000 in
theorem wwrite_1 {l : XL} {st : St} {ex : Ext} {w : World} (hr : XRep l st ex w) (v : Int) :
    Calls Tryz.prog 151 #[.pointer (some ⟨l.wa, 0, none⟩), .int .u8 1, .int .u8 v] w fun e w' => e = .returned (.tuple #[]) ∧ Went l (winS st v) ex w w' := by
  go_enter Tryz.func151, Tryz.ntmps151
  go_wp2_with fail
  refine (wwin_any hr v).mono ?_
  rintro e w1 ⟨rfl, went⟩
  go_wp2
  (first | go_end0 | refine bodyPost_ret (results_none rfl _ _ _) rfl ?_)
  exact ⟨rfl, went⟩

end Go.Proofs.YtikdbpphbdbdnaaGreat

/- The parts on the bus: what is written to them; strikes. -/
namespace Go.Proofs.YtikdbpphbdbdnaaGreat
open Go.RowKit
set_option linter.unusedVariables false

theorem Went.mk {l : XL} {st : St} {ex : Ext} {w w' : World} (h : XRep l st ex w') (k : Kept l.own w w') : Went l st ex w w' := ⟨l, Grew.refl l w, h, k⟩

theorem Went.as {l : XL} {st st' : St} {ex ex' : Ext} {w w' : World} (h : Went l st ex w w') (e : st = st') (e' : ex = ex') : Went l st' ex' w w' := e ▸ e' ▸ h

theorem XRep.ext_b0 {l : XL} {st : St} {ex : Ext} {w : World} (h : XRep l st ex w) (f : Nat → Int) (hf : ∀ i, i < 64 → f i = st.b0 i) : XRep l { st with b0 := f } ex w :=
  ⟨fun j hj => by
    by_cases e : j = 4
    · subst e
      intro i hi
      have h1 := h.all 4 hj i hi
      have e2 : encbk l { st with b0 := f } ex i = encbk l st ex i := by
        unfold encbk
        split <;> first | rfl | (split; (rename_i h2; exact congrArg (Value.int .u8) (hf _ h2)); rfl)
      exact ⟨h1.1.trans (congrArg some e2.symm), h1.2⟩
    · have := h.all j hj
      rcases eleven hj with rfl | rfl | rfl | rfl | rfl | rfl | rfl | rfl | rfl | rfl | rfl <;> first | exact this | exact absurd rfl e, h.inj, h.qu, h.qa⟩

theorem XRep.ext_b1 {l : XL} {st : St} {ex : Ext} {w : World} (h : XRep l st ex w) (f : Nat → Int) (hf : ∀ i, i < 64 → f i = st.b1 i) : XRep l { st with b1 := f } ex w :=
  ⟨fun j hj => by
    by_cases e : j = 4
    · subst e
      intro i hi
      have hi2 : i < 131 := hi
      have h1 := h.all 4 hj i hi
      have e2 : encbk l { st with b1 := f } ex i = encbk l st ex i := by
        unfold encbk
        split <;> first | rfl | (split; rfl; rename_i h128 h129 h130 h2; exact congrArg (Value.int .u8) (hf (i - 64) (by have a1 : i ≠ 128 := h128; have a2 : i ≠ 129 := h129; have a3 : i ≠ 130 := h130; have a4 : i < 131 := hi2; omega)))
      exact ⟨h1.1.trans (congrArg some e2.symm), h1.2⟩
    · have := h.all j hj
      rcases eleven hj with rfl | rfl | rfl | rfl | rfl | rfl | rfl | rfl | rfl | rfl | rfl <;> first | exact this | exact absurd rfl e, h.inj, h.qu, h.qa⟩

def fillN (f : Nat → Int) (j : Nat) : Nat → Int := fun i => if i < j then 255 else f i

theorem fillN_succ (f : Nat → Int) (j : Nat) : upd (fillN f j) j 255 = fillN f (j + 1) := by
  funext i
  unfold upd fillN
  by_cases e : i = j
  · rw [if_pos e, if_pos (by omega)]
  · rw [if_neg e]
    by_cases h : i < j
    · rw [if_pos h, if_pos (by omega)]
    · rw [if_neg h, if_neg (by omega)]

set_option maxHeartbeats 400000 in
theorem mwrite_any {l : XL} {st : St} {ex : Ext} {w : World} (hr : XRep l st ex w) (k : Nat) (hk : k < 128) (v : Int) :
    Calls Tryz.prog 147 #[.pointer (some ⟨l.me, 0, none⟩), .int .u8 k, .int .u8 v] w fun e w' => e = .returned (.tuple #[]) ∧ Went l { st with mem := upd st.mem k v } ex w w' := by
  have c1 := hr.c_mem k hk
  have f1 := hr.f_mem k hk
  have hk' : (k : Int) < 128 := by omega
  go_enter Tryz.func147, Tryz.ntmps147
  go_wp2
  (first | go_end0 | refine bodyPost_ret (results_none rfl _ _ _) rfl ?_)
  exact ⟨rfl, Went.mk (hr.set_mem k hk v) ((Kept.refl _ _).me _ _)⟩

set_option maxHeartbeats 400000 in
theorem gwrite_any {l : XL} {st : St} {ex : Ext} {w : World} (hr : XRep l st ex w) (k v : Int) :
    Calls Tryz.prog 142 #[.agg #[.pointer (some ⟨l.bk, 0, none⟩)], .int .u8 k, .int .u8 v] w fun e w' => e = .returned (.tuple #[]) ∧ Went l st ex w w' := by
  go_enter Tryz.func142, Tryz.ntmps142
  go_wp2
  (first | go_end0 | refine bodyPost_ret (results_none rfl _ _ _) rfl ?_)
  exact ⟨rfl, Went.mk (hr.alloc _) ((Kept.refl _ _).alloc _)⟩

set_option maxHeartbeats 400000 in
theorem pwrite_0 {l : XL} {st : St} {ex : Ext} {w : World} (hr : XRep l st ex w) (v : Int) :
    Calls Tryz.prog 156 #[.pointer (some ⟨l.po, 0, none⟩), .int .u8 0, .int .u8 v] w fun e w' => e = .returned (.tuple #[]) ∧ Went l { st with out := v } ex w w' := by
  have c1 := hr.c_out
  have f1 := hr.f_out
  go_enter Tryz.func156, Tryz.ntmps156
  go_wp2
  (first | go_end0 | refine bodyPost_ret (results_none rfl _ _ _) rfl ?_)
  exact ⟨rfl, Went.mk (hr.set_out _) ((Kept.refl _ _).po _ _)⟩

set_option maxHeartbeats 400000 in
theorem pwrite_1 {l : XL} {st : St} {ex : Ext} {w : World} (hr : XRep l st ex w) (v : Int) :
    Calls Tryz.prog 156 #[.pointer (some ⟨l.po, 0, none⟩), .int .u8 1, .int .u8 v] w fun e w' => e = .returned (.tuple #[]) ∧ Went l st ex w w' := by
  go_enter Tryz.func156, Tryz.ntmps156
  go_wp2
  (first | go_end0 | refine bodyPost_ret (results_none rfl _ _ _) rfl ?_)
  exact ⟨rfl, Went.mk hr (Kept.refl _ _)⟩

set_option maxHeartbeats 400000 in
theorem pboot_any {l : XL} {st : St} {ex : Ext} {w : World} (hr : XRep l st ex w) :
    Calls Tryz.prog 86 #[.pointer (some ⟨l.po, 0, none⟩)] w fun e w' => e = .returned (.tuple #[]) ∧ XRep l { st with out := 0 } ex w' ∧ Kept l.own w w' := by
  have c1 := hr.c_out
  have f1 := hr.f_out
  go_enter Tryz.func86, Tryz.ntmps86
  go_wp2
  (first | go_end0 | refine bodyPost_ret (results_none rfl _ _ _) rfl ?_)
  exact ⟨rfl, hr.set_out _, (Kept.refl _ _).po _ _⟩

set_option maxHeartbeats 400000 in
theorem uboot_any {l : XL} {st : St} {ex : Ext} {w : World} (hr : XRep l st ex w) :
    Calls Tryz.prog 87 #[.pointer (some ⟨l.up, 0, none⟩)] w fun e w' => e = .returned (.tuple #[]) ∧ XRep l { st with opn := false, place := 0 } ex w' ∧ Kept l.own w w' := by
  have c1 := hr.c_opn
  have f1 := hr.f_opn
  have c2 := hr.c_place
  have f2 := hr.f_place
  go_enter Tryz.func87, Tryz.ntmps87
  go_wp2
  (first | go_end0 | refine bodyPost_ret (results_none rfl _ _ _) rfl ?_)
  exact ⟨rfl, ((hr.set_opn _).set_place _).as rfl rfl, ((Kept.refl _ _).up _ _).up _ _⟩

set_option maxRecDepth 100000 in
set_option maxHeartbeats 1000000 in
theorem uerase_0 {l : XL} {st : St} {ex : Ext} {w : World} (hr : XRep l st ex w) (hb : st.bank = 0) :
    Calls Tryz.prog 162 #[.pointer (some ⟨l.up, 0, none⟩)] w fun e w' => e = .returned (.tuple #[]) ∧ XRep l { st with b1 := fun _ => 255 } ex w' ∧ Kept l.own w w' := by
  have c1 := hr.c_ubk
  have HB : Hid _ := hb
  clear hb
  go_enter Tryz.func162, Tryz.ntmps162
  go_wp2_with fail
  refine (kspare_0 hr HB.out).mono ?_
  rintro e w1 ⟨rfl, nq, rfl⟩
  go_wp2
  go_loopw [3, 9] (fun _ i wx => ∃ j : Nat, j ≤ 64 ∧ i = .int .i64 j ∧ XRep l { st with b1 := fillN st.b1 j } ex wx ∧ Kept l.own w wx) (fun _ i _ => 64 - (intOf i).toNat)
  case atStart => exact ⟨0, by omega, rfl, (hr.drewN _).as (by show st = { st with b1 := fun i => if i < 0 then 255 else st.b1 i }; simp) rfl, (Kept.refl _ _).drewN _⟩
  case round =>
    obtain ⟨j, hj, rfl, hx, kx⟩ := hrel
    by_cases hlt : j < 64
    · have hlt' : (j : Int) < 64 := by omega
      have d1 := hx.c_b1 j hlt
      have d2 := hx.f_bk (64 + j) (by omega)
      have h2 := (hx.set_b1 j hlt 255).as (by show { st with b1 := upd (fillN st.b1 j) j 255 } = { st with b1 := fillN st.b1 (j + 1) }; rw [fillN_succ]) rfl
      have HX : Hid _ := h2
      clear h2
      go_wp2
      exact ⟨⟨j + 1, by omega, by go_num, HX.out, kx.bk _ _⟩, by simp [intOf]; omega⟩
    · have hlt' : ¬ (j : Int) < 64 := by omega
      go_wp2
      (first | go_end0 | refine bodyPost_ret (results_none rfl _ _ _) rfl ?_)
      refine ⟨rfl, ?_, kx⟩
      exact (hx.ext_b1 (fun _ => 255) (fun i hi => by show 255 = fillN st.b1 j i; unfold fillN; rw [if_pos (by omega)])).as rfl rfl

set_option maxRecDepth 100000 in
set_option maxHeartbeats 1000000 in
theorem uturn_open_0 {l : XL} {st : St} {ex : Ext} {w : World} (hr : XRep l st ex w) (hb : st.bank = 0) :
    Calls Tryz.prog 160 #[.pointer (some ⟨l.up, 0, none⟩), .int .u8 229] w fun e w' => e = .returned (.tuple #[]) ∧ XRep l { st with opn := true, b1 := fun _ => 255, place := 0 } ex w' ∧ Kept l.own w w' := by
  have c1 := hr.c_opn
  have f1 := hr.f_opn
  have HB : Hid _ := hb
  clear hb
  go_enter Tryz.func160, Tryz.ntmps160
  go_wp2_with fail
  refine (uerase_0 (hr.set_opn true) HB.out).mono ?_
  rintro e w1 ⟨rfl, hr1, k1⟩
  have d1 := hr1.c_place
  have d2 := hr1.f_place
  have k2 := (((Kept.refl l.own w).up 1 (.bool true)).trans k1)
  go_wp2
  (first | go_end0 | refine bodyPost_ret (results_none rfl _ _ _) rfl ?_)
  exact ⟨rfl, (hr1.set_place _).as rfl rfl, k2.up _ _⟩

set_option maxRecDepth 100000 in
set_option maxHeartbeats 1000000 in
theorem ufill_0 {l : XL} {st : St} {ex : Ext} {w : World} (hr : XRep l st ex w) (hb : st.bank = 0) (ho : st.opn = true) (k : Nat) (hk : k < 64) (hp : st.place = k) (v : Int) :
    Calls Tryz.prog 161 #[.pointer (some ⟨l.up, 0, none⟩), .int .u8 v] w fun e w' => e = .returned (.tuple #[]) ∧ XRep l { st with b1 := upd st.b1 k v, place := (k + 1) % 64 } ex w' ∧ Kept l.own w w' := by
  have c1 := hr.c_opn
  rw [ho] at c1
  have hk' : (k : Int) < 64 := by omega
  have HC : Hid _ := fun W (hW : Still w W) => kspare_0 (hr.kept hW (fun _ _ x => x)) hb
  have HS : Hid (∀ W, Still w W → W.cell? ⟨l.bk, 64 + k, none⟩ = some (.int .u8 (st.b1 k)) ∧ W.frozen? ⟨l.bk, 64 + k, none⟩ = false ∧ W.cell? ⟨l.up, 2, none⟩ = some (.int .u8 k) ∧ W.cell? ⟨l.up, 0, none⟩ = some (.pointer (some ⟨l.bk, 0, none⟩))) := fun W hW =>
    have h := hr.kept hW (fun _ _ x => x)
    ⟨h.c_b1 k hk, h.f_bk _ (by omega), by rw [h.c_place, hp], h.c_ubk⟩
  have HR : Hid (∀ W, Still w W → XRep l { st with b1 := upd st.b1 k v } ex (W.setCell ⟨l.bk, 64 + k, none⟩ (.int .u8 v))) := fun W hW => (hr.kept hW (fun _ _ x => x)).set_b1 k hk v
  have HP : Hid (st.place = k) := hp
  obtain ⟨d1, d2, d3, d4⟩ := HS.out w (Kept.refl _ _)
  have f3 := hr.f_place
  clear ho hb hp
  go_enter Tryz.func161, Tryz.ntmps161
  go_wp2
  go_region_with (first | (go_at_call 159; refine (HC.out _ (by unfold Still; (repeat (with_reducible first | apply Kept.alloc | apply Kept.drewN | apply Kept.drew | apply Kept.nb | apply Kept.g | apply Kept.bs | apply Kept.ck | apply Kept.bk | apply Kept.tm | apply Kept.wa | apply Kept.po | apply Kept.up | apply Kept.re | apply Kept.me | refine Kept.setCell ?_ (Or.inr (Nat.le_refl _)) _ | refine Kept.setCell ?_ (Or.inr (by omega)) _ | exact k1 | exact k2 | exact k3 | exact Kept.refl _ _)))).mono ?_; rintro e w' ⟨rfl, n, rfl⟩))
  all_goals
    have hx := HR.out (w.drewN (1 + n)) ((Kept.refl _ _).drewN _)
    have d5 := hx.c_place
    have d6 := hx.f_place
    have d7 : Hid (∀ v, XRep l _ ex _) := fun v => hx.set_place v
    have d8 : st.place = k := HP.out
    rw [d8] at d5
    clear d8 hx
    go_wp2
    (first | go_end0 | refine bodyPost_ret (results_none rfl _ _ _) rfl ?_)
    exact ⟨rfl, (d7.out _).as rfl rfl, by (repeat (with_reducible first | apply Kept.alloc | apply Kept.drewN | apply Kept.drew | apply Kept.nb | apply Kept.g | apply Kept.bs | apply Kept.ck | apply Kept.bk | apply Kept.tm | apply Kept.wa | apply Kept.po | apply Kept.up | apply Kept.re | apply Kept.me | refine Kept.setCell ?_ (Or.inr (Nat.le_refl _)) _ | refine Kept.setCell ?_ (Or.inr (by omega)) _ | exact k1 | exact k2 | exact k3 | exact Kept.refl _ _))⟩

set_option maxRecDepth 100000 in
set_option maxHeartbeats 1000000 in
theorem uerase_1 {l : XL} {st : St} {ex : Ext} {w : World} (hr : XRep l st ex w) (hb : st.bank = 1) :
    Calls Tryz.prog 162 #[.pointer (some ⟨l.up, 0, none⟩)] w fun e w' => e = .returned (.tuple #[]) ∧ XRep l { st with b0 := fun _ => 255 } ex w' ∧ Kept l.own w w' := by
  have c1 := hr.c_ubk
  have HB : Hid _ := hb
  clear hb
  go_enter Tryz.func162, Tryz.ntmps162
  go_wp2_with fail
  refine (kspare_1 hr HB.out).mono ?_
  rintro e w1 ⟨rfl, nq, rfl⟩
  go_wp2
  go_loopw [3, 9] (fun _ i wx => ∃ j : Nat, j ≤ 64 ∧ i = .int .i64 j ∧ XRep l { st with b0 := fillN st.b0 j } ex wx ∧ Kept l.own w wx) (fun _ i _ => 64 - (intOf i).toNat)
  case atStart => exact ⟨0, by omega, rfl, (hr.drewN _).as (by show st = { st with b0 := fun i => if i < 0 then 255 else st.b0 i }; simp) rfl, (Kept.refl _ _).drewN _⟩
  case round =>
    obtain ⟨j, hj, rfl, hx, kx⟩ := hrel
    by_cases hlt : j < 64
    · have hlt' : (j : Int) < 64 := by omega
      have d1 := hx.c_b0 j hlt
      have d2 := hx.f_bk (j) (by omega)
      have h2 := (hx.set_b0 j hlt 255).as (by show { st with b0 := upd (fillN st.b0 j) j 255 } = { st with b0 := fillN st.b0 (j + 1) }; rw [fillN_succ]) rfl
      have HX : Hid _ := h2
      clear h2
      go_wp2
      exact ⟨⟨j + 1, by omega, by go_num, HX.out, kx.bk _ _⟩, by simp [intOf]; omega⟩
    · have hlt' : ¬ (j : Int) < 64 := by omega
      go_wp2
      (first | go_end0 | refine bodyPost_ret (results_none rfl _ _ _) rfl ?_)
      refine ⟨rfl, ?_, kx⟩
      exact (hx.ext_b0 (fun _ => 255) (fun i hi => by show 255 = fillN st.b0 j i; unfold fillN; rw [if_pos (by omega)])).as rfl rfl

set_option maxRecDepth 100000 in
set_option maxHeartbeats 1000000 in
theorem uturn_open_1 {l : XL} {st : St} {ex : Ext} {w : World} (hr : XRep l st ex w) (hb : st.bank = 1) :
    Calls Tryz.prog 160 #[.pointer (some ⟨l.up, 0, none⟩), .int .u8 229] w fun e w' => e = .returned (.tuple #[]) ∧ XRep l { st with opn := true, b0 := fun _ => 255, place := 0 } ex w' ∧ Kept l.own w w' := by
  have c1 := hr.c_opn
  have f1 := hr.f_opn
  have HB : Hid _ := hb
  clear hb
  go_enter Tryz.func160, Tryz.ntmps160
  go_wp2_with fail
  refine (uerase_1 (hr.set_opn true) HB.out).mono ?_
  rintro e w1 ⟨rfl, hr1, k1⟩
  have d1 := hr1.c_place
  have d2 := hr1.f_place
  have k2 := (((Kept.refl l.own w).up 1 (.bool true)).trans k1)
  go_wp2
  (first | go_end0 | refine bodyPost_ret (results_none rfl _ _ _) rfl ?_)
  exact ⟨rfl, (hr1.set_place _).as rfl rfl, k2.up _ _⟩

set_option maxRecDepth 100000 in
set_option maxHeartbeats 1000000 in
theorem ufill_1 {l : XL} {st : St} {ex : Ext} {w : World} (hr : XRep l st ex w) (hb : st.bank = 1) (ho : st.opn = true) (k : Nat) (hk : k < 64) (hp : st.place = k) (v : Int) :
    Calls Tryz.prog 161 #[.pointer (some ⟨l.up, 0, none⟩), .int .u8 v] w fun e w' => e = .returned (.tuple #[]) ∧ XRep l { st with b0 := upd st.b0 k v, place := (k + 1) % 64 } ex w' ∧ Kept l.own w w' := by
  have c1 := hr.c_opn
  rw [ho] at c1
  have hk' : (k : Int) < 64 := by omega
  have HC : Hid _ := fun W (hW : Still w W) => kspare_1 (hr.kept hW (fun _ _ x => x)) hb
  have HS : Hid (∀ W, Still w W → W.cell? ⟨l.bk, k, none⟩ = some (.int .u8 (st.b0 k)) ∧ W.frozen? ⟨l.bk, k, none⟩ = false ∧ W.cell? ⟨l.up, 2, none⟩ = some (.int .u8 k) ∧ W.cell? ⟨l.up, 0, none⟩ = some (.pointer (some ⟨l.bk, 0, none⟩))) := fun W hW =>
    have h := hr.kept hW (fun _ _ x => x)
    ⟨h.c_b0 k hk, h.f_bk _ (by omega), by rw [h.c_place, hp], h.c_ubk⟩
  have HR : Hid (∀ W, Still w W → XRep l { st with b0 := upd st.b0 k v } ex (W.setCell ⟨l.bk, k, none⟩ (.int .u8 v))) := fun W hW => (hr.kept hW (fun _ _ x => x)).set_b0 k hk v
  have HP : Hid (st.place = k) := hp
  obtain ⟨d1, d2, d3, d4⟩ := HS.out w (Kept.refl _ _)
  have f3 := hr.f_place
  clear ho hb hp
  go_enter Tryz.func161, Tryz.ntmps161
  go_wp2
  go_region_with (first | (go_at_call 159; refine (HC.out _ (by unfold Still; (repeat (with_reducible first | apply Kept.alloc | apply Kept.drewN | apply Kept.drew | apply Kept.nb | apply Kept.g | apply Kept.bs | apply Kept.ck | apply Kept.bk | apply Kept.tm | apply Kept.wa | apply Kept.po | apply Kept.up | apply Kept.re | apply Kept.me | refine Kept.setCell ?_ (Or.inr (Nat.le_refl _)) _ | refine Kept.setCell ?_ (Or.inr (by omega)) _ | exact k1 | exact k2 | exact k3 | exact Kept.refl _ _)))).mono ?_; rintro e w' ⟨rfl, n, rfl⟩))
  all_goals
    have hx := HR.out (w.drewN (1 + n)) ((Kept.refl _ _).drewN _)
    have d5 := hx.c_place
    have d6 := hx.f_place
    have d7 : Hid (∀ v, XRep l _ ex _) := fun v => hx.set_place v
    have d8 : st.place = k := HP.out
    rw [d8] at d5
    clear d8 hx
    go_wp2
    (first | go_end0 | refine bodyPost_ret (results_none rfl _ _ _) rfl ?_)
    exact ⟨rfl, (d7.out _).as rfl rfl, by (repeat (with_reducible first | apply Kept.alloc | apply Kept.drewN | apply Kept.drew | apply Kept.nb | apply Kept.g | apply Kept.bs | apply Kept.ck | apply Kept.bk | apply Kept.tm | apply Kept.wa | apply Kept.po | apply Kept.up | apply Kept.re | apply Kept.me | refine Kept.setCell ?_ (Or.inr (Nat.le_refl _)) _ | refine Kept.setCell ?_ (Or.inr (by omega)) _ | exact k1 | exact k2 | exact k3 | exact Kept.refl _ _))⟩

set_option maxHeartbeats 400000 in
theorem ufill_shut {l : XL} {st : St} {ex : Ext} {w : World} (hr : XRep l st ex w) (ho : st.opn = false) (v : Int) :
    Calls Tryz.prog 161 #[.pointer (some ⟨l.up, 0, none⟩), .int .u8 v] w fun e w' => e = .returned (.tuple #[]) ∧ w' = w := by
  have c1 := hr.c_opn
  rw [ho] at c1
  clear ho
  go_enter Tryz.func161, Tryz.ntmps161
  go_wp2
  (first | go_end0 | refine bodyPost_ret (results_none rfl _ _ _) rfl ?_)
  exact ⟨rfl, rfl⟩

set_option maxHeartbeats 400000 in
theorem uturn_shut {l : XL} {st : St} {ex : Ext} {w : World} (hr : XRep l st ex w) (v : Int) (hv : (v == 229) = false) :
    Calls Tryz.prog 160 #[.pointer (some ⟨l.up, 0, none⟩), .int .u8 v] w fun e w' => e = .returned (.tuple #[]) ∧ XRep l { st with opn := false } ex w' ∧ Kept l.own w w' := by
  have c1 := hr.c_opn
  have f1 := hr.f_opn
  go_enter Tryz.func160, Tryz.ntmps160
  go_wp2
  (first | go_end0 | refine bodyPost_ret (results_none rfl _ _ _) rfl ?_)
  exact ⟨rfl, hr.set_opn _, (Kept.refl _ _).up _ _⟩

set_option maxRecDepth 100000 in
set_option maxHeartbeats 400000 in
theorem kforgive_0 {l : XL} {st : St} {ex : Ext} {w : World} (hr : XRep l st ex w) (hb : st.bank = 0) :
    Calls Tryz.prog 164 #[.pointer (some ⟨l.bk, 0, none⟩)] w fun e w' => e = .returned (.tuple #[]) ∧ XRep l (st.setStrikes 0) ex w' ∧ Kept l.own w w' := by
  have HF : Hid (st.setStrikes 0 = { st with s0 := 0 }) := by simp [Hid, St.setStrikes, hb]
  have c1 := hr.c_bank
  rw [hb] at c1
  clear hb
  have c2 := hr.c_s0
  have f2 := hr.f_s0
  go_enter Tryz.func164, Tryz.ntmps164
  go_wp2
  go_region
  all_goals
    go_wp2
    (first | go_end0 | refine bodyPost_ret (results_none rfl _ _ _) rfl ?_)
    refine ⟨rfl, ?_, by (repeat (with_reducible first | apply Kept.alloc | apply Kept.drewN | apply Kept.drew | apply Kept.nb | apply Kept.g | apply Kept.bs | apply Kept.ck | apply Kept.bk | apply Kept.tm | apply Kept.wa | apply Kept.po | apply Kept.up | apply Kept.re | apply Kept.me | refine Kept.setCell ?_ (Or.inr (Nat.le_refl _)) _ | refine Kept.setCell ?_ (Or.inr (by omega)) _ | exact k1 | exact k2 | exact k3 | exact Kept.refl _ _))⟩
    rw [HF.out]
    first | exact (hr.set_s0 0).drew | exact hr.drew.set_s0 0 | exact (hr.set_s0 0).drewN _

set_option maxRecDepth 100000 in
set_option maxHeartbeats 400000 in
theorem kforgive_1 {l : XL} {st : St} {ex : Ext} {w : World} (hr : XRep l st ex w) (hb : st.bank = 1) :
    Calls Tryz.prog 164 #[.pointer (some ⟨l.bk, 0, none⟩)] w fun e w' => e = .returned (.tuple #[]) ∧ XRep l (st.setStrikes 0) ex w' ∧ Kept l.own w w' := by
  have HF : Hid (st.setStrikes 0 = { st with s1 := 0 }) := by simp [Hid, St.setStrikes, hb]
  have c1 := hr.c_bank
  rw [hb] at c1
  clear hb
  have c2 := hr.c_s1
  have f2 := hr.f_s1
  go_enter Tryz.func164, Tryz.ntmps164
  go_wp2
  go_region
  all_goals
    go_wp2
    (first | go_end0 | refine bodyPost_ret (results_none rfl _ _ _) rfl ?_)
    refine ⟨rfl, ?_, by (repeat (with_reducible first | apply Kept.alloc | apply Kept.drewN | apply Kept.drew | apply Kept.nb | apply Kept.g | apply Kept.bs | apply Kept.ck | apply Kept.bk | apply Kept.tm | apply Kept.wa | apply Kept.po | apply Kept.up | apply Kept.re | apply Kept.me | refine Kept.setCell ?_ (Or.inr (Nat.le_refl _)) _ | refine Kept.setCell ?_ (Or.inr (by omega)) _ | exact k1 | exact k2 | exact k3 | exact Kept.refl _ _))⟩
    rw [HF.out]
    first | exact (hr.set_s1 0).drew | exact hr.drew.set_s1 0 | exact (hr.set_s1 0).drewN _

set_option maxRecDepth 100000 in
set_option maxHeartbeats 400000 in
theorem kstrike_0 {l : XL} {st : St} {ex : Ext} {w : World} (hr : XRep l st ex w) (hb : st.bank = 0) :
    Calls Tryz.prog 76 #[.pointer (some ⟨l.bk, 0, none⟩)] w fun e w' => e = .returned (.tuple #[]) ∧ XRep l (st.setStrikes (wrap64 (st.strikes + 1))) ex w' ∧ Kept l.own w w' := by
  have HF : Hid (st.setStrikes (wrap64 (st.strikes + 1)) = { st with s0 := wrap64 (st.s0 + 1) }) := by simp [Hid, St.setStrikes, St.strikes, hb]
  have c1 := hr.c_bank
  rw [hb] at c1
  clear hb
  have c2 := hr.c_s0
  have f2 := hr.f_s0
  go_enter Tryz.func76, Tryz.ntmps76
  go_wp2
  go_region
  all_goals
    go_wp2
    (first | go_end0 | refine bodyPost_ret (results_none rfl _ _ _) rfl ?_)
    refine ⟨rfl, ?_, by (repeat (with_reducible first | apply Kept.alloc | apply Kept.drewN | apply Kept.drew | apply Kept.nb | apply Kept.g | apply Kept.bs | apply Kept.ck | apply Kept.bk | apply Kept.tm | apply Kept.wa | apply Kept.po | apply Kept.up | apply Kept.re | apply Kept.me | refine Kept.setCell ?_ (Or.inr (Nat.le_refl _)) _ | refine Kept.setCell ?_ (Or.inr (by omega)) _ | exact k1 | exact k2 | exact k3 | exact Kept.refl _ _))⟩
    rw [HF.out]
    first | exact (hr.set_s0 _).drew | exact hr.drew.set_s0 _ | exact (hr.set_s0 _).drewN _

set_option maxRecDepth 100000 in
set_option maxHeartbeats 400000 in
theorem kstrike_1 {l : XL} {st : St} {ex : Ext} {w : World} (hr : XRep l st ex w) (hb : st.bank = 1) :
    Calls Tryz.prog 76 #[.pointer (some ⟨l.bk, 0, none⟩)] w fun e w' => e = .returned (.tuple #[]) ∧ XRep l (st.setStrikes (wrap64 (st.strikes + 1))) ex w' ∧ Kept l.own w w' := by
  have HF : Hid (st.setStrikes (wrap64 (st.strikes + 1)) = { st with s1 := wrap64 (st.s1 + 1) }) := by simp [Hid, St.setStrikes, St.strikes, hb]
  have c1 := hr.c_bank
  rw [hb] at c1
  clear hb
  have c2 := hr.c_s1
  have f2 := hr.f_s1
  go_enter Tryz.func76, Tryz.ntmps76
  go_wp2
  go_region
  all_goals
    go_wp2
    (first | go_end0 | refine bodyPost_ret (results_none rfl _ _ _) rfl ?_)
    refine ⟨rfl, ?_, by (repeat (with_reducible first | apply Kept.alloc | apply Kept.drewN | apply Kept.drew | apply Kept.nb | apply Kept.g | apply Kept.bs | apply Kept.ck | apply Kept.bk | apply Kept.tm | apply Kept.wa | apply Kept.po | apply Kept.up | apply Kept.re | apply Kept.me | refine Kept.setCell ?_ (Or.inr (Nat.le_refl _)) _ | refine Kept.setCell ?_ (Or.inr (by omega)) _ | exact k1 | exact k2 | exact k3 | exact Kept.refl _ _))⟩
    rw [HF.out]
    first | exact (hr.set_s1 _).drew | exact hr.drew.set_s1 _ | exact (hr.set_s1 _).drewN _

set_option maxRecDepth 100000 in
set_option maxHeartbeats 400000 in
theorem cwrite_13 {l : XL} {st : St} {ex : Ext} {w : World} (hr : XRep l st ex w) (hb : st.bank = 0 ∨ st.bank = 1) :
    Calls Tryz.prog 163 #[.pointer (some ⟨l.re, 0, none⟩), .int .u8 1, .int .u8 13] w fun e w' => e = .returned (.tuple #[]) ∧ Went l (st.setStrikes 0) ex w w' := by
  have c1 := hr.c_rbk
  have HK : Hid (Calls Tryz.prog 164 #[.pointer (some ⟨l.bk, 0, none⟩)] w fun e w' => e = .returned (.tuple #[]) ∧ XRep l (st.setStrikes 0) ex w' ∧ Kept l.own w w') := by
    rcases hb with hb | hb
    · exact kforgive_0 hr hb
    · exact kforgive_1 hr hb
  clear hb
  go_enter Tryz.func163, Tryz.ntmps163
  go_wp2_with fail
  refine Calls.mono HK.out ?_
  rintro e w1 ⟨rfl, hr1, k1⟩
  go_wp2
  (first | go_end0 | refine bodyPost_ret (results_none rfl _ _ _) rfl ?_)
  exact ⟨rfl, Went.mk hr1 k1⟩

set_option maxHeartbeats 400000 in
theorem cwrite_no {l : XL} {st : St} {ex : Ext} {w : World} (hr : XRep l st ex w) (v : Int) (hv : (v == 13) = false) :
    Calls Tryz.prog 163 #[.pointer (some ⟨l.re, 0, none⟩), .int .u8 1, .int .u8 v] w fun e w' => e = .returned (.tuple #[]) ∧ Went l st ex w w' := by
  go_enter Tryz.func163, Tryz.ntmps163
  go_wp2
  (first | go_end0 | refine bodyPost_ret (results_none rfl _ _ _) rfl ?_)
  exact ⟨rfl, Went.mk hr (Kept.refl _ _)⟩

set_option maxHeartbeats 400000 in
theorem cwrite_0 {l : XL} {st : St} {ex : Ext} {w : World} (hr : XRep l st ex w) (v : Int) :
    Calls Tryz.prog 163 #[.pointer (some ⟨l.re, 0, none⟩), .int .u8 0, .int .u8 v] w fun e w' => e = .returned (.tuple #[]) ∧ Went l st ex w w' := by
  go_enter Tryz.func163, Tryz.ntmps163
  go_wp2
  (first | go_end0 | refine bodyPost_ret (results_none rfl _ _ _) rfl ?_)
  exact ⟨rfl, Went.mk hr (Kept.refl _ _)⟩

set_option maxHeartbeats 400000 in
theorem uwrite_1 {l : XL} {st : St} {ex : Ext} {w : World} (hr : XRep l st ex w) (v : Int) (h0 : 0 ≤ v) (h1 : v ≤ 255) :
    Calls Tryz.prog 158 #[.pointer (some ⟨l.up, 0, none⟩), .int .u8 1, .int .u8 v] w fun e w' => e = .returned (.tuple #[]) ∧ Went l { st with place := v % 64 } ex w w' := by
  have c1 := hr.c_place
  have f1 := hr.f_place
  go_enter Tryz.func158, Tryz.ntmps158
  go_wp2
  (first | go_end0 | refine bodyPost_ret (results_none rfl _ _ _) rfl ?_)
  exact ⟨rfl, Went.mk (hr.set_place _) ((Kept.refl _ _).up _ _)⟩

/-- What the updater's places do. -/
theorem uwrite_0 {l : XL} {st : St} {ex : Ext} {w : World} (hr : XRep l st ex w) (hb : st.bank = 0 ∨ st.bank = 1) (v : Int) :
    Calls Tryz.prog 158 #[.pointer (some ⟨l.up, 0, none⟩), .int .u8 0, .int .u8 v] w fun e w' => e = .returned (.tuple #[]) ∧ Went l (st.updates 199 v) ex w w' := by
  have HK : Hid (Calls Tryz.prog 160 #[.pointer (some ⟨l.up, 0, none⟩), .int .u8 v] w fun e w' => e = .returned (.tuple #[]) ∧ XRep l (st.updates 199 v) ex w' ∧ Kept l.own w w') := by
    unfold Hid
    by_cases hv : v = 229
    · subst hv
      rcases hb with hb | hb
      · exact (uturn_open_0 hr hb).mono fun e w' ⟨h1, h2, h3⟩ => ⟨h1, h2.as (by simp [St.updates, St.setBank, hb]) rfl, h3⟩
      · exact (uturn_open_1 hr hb).mono fun e w' ⟨h1, h2, h3⟩ => ⟨h1, h2.as (by simp [St.updates, St.setBank, hb]) rfl, h3⟩
    · exact (uturn_shut hr v (by simpa using hv)).mono fun e w' ⟨h1, h2, h3⟩ => ⟨h1, h2.as (by simp [St.updates, hv]) rfl, h3⟩
  clear hb
  go_enter Tryz.func158, Tryz.ntmps158
  go_wp2_with fail
  refine Calls.mono HK.out ?_
  rintro e w1 ⟨rfl, hr1, k1⟩
  go_wp2
  (first | go_end0 | refine bodyPost_ret (results_none rfl _ _ _) rfl ?_)
  exact ⟨rfl, Went.mk hr1 k1⟩

theorem uwrite_2 {l : XL} {st : St} {ex : Ext} {w : World} (hr : XRep l st ex w) (hi : Inv st) (hb : st.bank = 0 ∨ st.bank = 1) (v : Int) :
    Calls Tryz.prog 158 #[.pointer (some ⟨l.up, 0, none⟩), .int .u8 2, .int .u8 v] w fun e w' => e = .returned (.tuple #[]) ∧ Went l (st.updates 201 v) ex w w' := by
  have HK : Hid (Calls Tryz.prog 161 #[.pointer (some ⟨l.up, 0, none⟩), .int .u8 v] w fun e w' => e = .returned (.tuple #[]) ∧ XRep l (st.updates 201 v) ex w' ∧ Kept l.own w w') := by
    unfold Hid
    have hp := hi.place
    cases ho : st.opn
    · exact (ufill_shut hr ho v).mono fun e w' ⟨h1, h2⟩ => ⟨h1, by rw [h2]; exact hr.as (by simp [St.updates, ho]) rfl, by rw [h2]; exact Kept.refl _ _⟩
    · have hpe : ((st.place.toNat : Nat) : Int) = st.place := Int.toNat_of_nonneg hp.1
      rcases hb with hb | hb
      · exact (ufill_0 hr hb ho st.place.toNat (by omega) hpe.symm v).mono fun e w' ⟨h1, h2, h3⟩ => ⟨h1, h2.as (by rw [hpe]; simp [St.updates, ho, St.setBank, hb]; rfl) rfl, h3⟩
      · exact (ufill_1 hr hb ho st.place.toNat (by omega) hpe.symm v).mono fun e w' ⟨h1, h2, h3⟩ => ⟨h1, h2.as (by rw [hpe]; simp [St.updates, ho, St.setBank, hb]; rfl) rfl, h3⟩
  clear hb
  go_enter Tryz.func158, Tryz.ntmps158
  go_wp2_with fail
  refine Calls.mono HK.out ?_
  rintro e w1 ⟨rfl, hr1, k1⟩
  go_wp2
  (first | go_end0 | refine bodyPost_ret (results_none rfl _ _ _) rfl ?_)
  exact ⟨rfl, Went.mk hr1 k1⟩

end Go.Proofs.YtikdbpphbdbdnaaGreat

/- The bus: a byte is written. -/
namespace Go.Proofs.YtikdbpphbdbdnaaGreat
open Go.RowKit
set_option linter.unusedVariables false

theorem Grew.bs {l l' : XL} {w : World} (h : Grew l l' w) : l'.bs = l.bs := by obtain ⟨q, cap, rfl, _⟩ := h; rfl

theorem Went.still {l : XL} {st : St} {ex : Ext} {w w1 w2 : World} (h : Went l st ex w w1) (k : Still w1 w2) : Went l st ex w w2 := by
  obtain ⟨l', g, r, kk⟩ := h
  exact ⟨l', g, r.kept k (fun _ _ x => x), kk.trans (k.wide (fun _ x => x.elim))⟩

theorem Went.alloc {l : XL} {st : St} {ex : Ext} {w w1 : World} (h : Went l st ex w w1) (o : Obj) : Went l st ex w (w1.alloc o) := h.still ((Kept.refl _ _).alloc o)

theorem Went.slot {l : XL} {st : St} {ex : Ext} {w w1 : World} (h : Went l st ex w w1) (j : Nat) (hj : j < 7) :
    ∃ v, w1.cell? ⟨l.bs, j * 3, none⟩ = some (.int .u8 (slotLo j)) ∧ w1.cell? ⟨l.bs, j * 3 + 1, none⟩ = some (.int .u8 (slotHi j)) ∧ w1.cell? ⟨l.bs, j * 3 + 2, none⟩ = some (.iface (slotTy j) v) ∧ l.bs < w1.heap.size := by
  obtain ⟨l', g, r, kk⟩ := h
  obtain ⟨a, b, c⟩ := r.slot j hj
  have d := r.bs_q
  rw [g.bs] at a b c d
  exact ⟨_, a, b, c, d⟩

theorem slotLo_gt {j0 : Nat} (h : j0 < 7) (j : Nat) (hj : j0 < j) (h7 : j < 7) : slotHi j0 < slotLo j := slotHi_lt h7 j0 hj

set_option maxRecDepth 100000 in
set_option maxHeartbeats 1000000 in
theorem bWrite_slot {l : XL} {st st' : St} {ex ex' : Ext} {w : World} (hr : XRep l st ex w) (j0 : Nat) (hj0 : j0 < 7) (a v : Int) (hlo : slotLo j0 ≤ a) (hhi : a ≤ slotHi j0) (K : FuncId) (recv : Value)
    (hm : ∀ W : World, (method 310 (slotTy j0) (slotVal l j0) "nightwatch/board.write").run Tryz.prog W = .ok (K, recv) W)
    (hent : ∀ (x y : Value) (W : World), (callFunc K #[recv, x, y]).run Tryz.prog W = .ok (.enter K #[recv, x, y]) W)
    (hcall : ∀ W : World, Still w W → Calls Tryz.prog K #[recv, .int .u8 ((a - slotLo j0) % 256), .int .u8 v] W fun e W' => e = .returned (.tuple #[]) ∧ Went l st' ex' W W') :
    Calls Tryz.prog 139 #[.slice (some ⟨l.bs, 0, none⟩) 7 7, .int .u8 a, .int .u8 v] w fun e w' => e = .returned (.tuple #[]) ∧ Went l st' ex' w w' := by
  have HC : Hid _ := hcall
  clear hcall
  go_enter Tryz.func139, Tryz.ntmps139
  go_wp2
  go_loopw [10] (fun i wx => (∃ j : Nat, j ≤ j0 ∧ i = .int .i64 j ∧ Still w wx) ∨ (∃ j : Nat, j0 < j ∧ j ≤ 7 ∧ i = .int .i64 j ∧ Went l st' ex' w wx)) (fun i _ => 7 - (intOf i).toNat)
  case atStart => exact Or.inl ⟨0, by omega, rfl, Kept.refl _ _⟩
  case round =>
    rcases hrel with ⟨j, hj, rfl, kx⟩ | ⟨j, hj, hj8, rfl, went⟩
    · have hrx := hr.kept kx (fun _ _ x => x)
      obtain ⟨s0, s1, s2⟩ := hrx.slot j (by omega)
      have hj7 : (j : Int) < 7 := by omega
      have hbs := hrx.bs_q
      by_cases hjj : j = j0
      · subst hjj
        have hh : holdsB (slotLo j) (slotHi j) a = true := by simp [holdsB, hlo, hhi]
        have HH : Hid _ := hh
        clear hh
        go_wp2_with fail
        refine (holds_any _ _ _ _ _).mono ?_
        rintro e w1 ⟨rfl, k1⟩
        obtain ⟨hc, hf⟩ := kcell k1 (b := wr.heap.size) (by simp) (fun x => x)
        have d0 : w1.cell? ⟨wr.heap.size, 0, none⟩ = some (.int .u8 (slotLo j)) := by rw [hc]; simp [go_sem]
        have d2 : w1.cell? ⟨wr.heap.size, 2, none⟩ = some (.iface (slotTy j) (slotVal l j)) := by rw [hc]; simp [go_sem]
        have kk : Still w w1 := (kx.alloc _).trans k1
        rw [HH.out]
        clear hc hf k1
        go_wp2
        refine (HC.out _ kk).mono ?_
        rintro e w2 ⟨rfl, went⟩
        have went2 := Went.before (kk.wide (fun _ x => x.elim)) went
        go_wp2
        exact ⟨Or.inr ⟨j + 1, by omega, by omega, by go_num, went2⟩, by simp [intOf]; omega⟩
      · have hh : holdsB (slotLo j) (slotHi j) a = false := by
          have := slotHi_lt hj0 j (by omega)
          simp [holdsB]
          omega
        have HH : Hid _ := hh
        clear hh
        go_wp2_with fail
        refine (holds_any _ _ _ _ _).mono ?_
        rintro e w1 ⟨rfl, k1⟩
        have kk : Still w w1 := (kx.alloc _).trans k1
        rw [HH.out]
        clear k1
        go_wp2
        exact ⟨Or.inl ⟨j + 1, by omega, by go_num, kk⟩, by simp [intOf]; omega⟩
    · by_cases hj7' : j < 7
      · obtain ⟨vv, s0, s1, s2, hbs⟩ := went.slot j hj7'
        have hj7 : (j : Int) < 7 := by omega
        have hh : holdsB (slotLo j) (slotHi j) a = false := by
          have := slotLo_gt hj0 j hj hj7'
          simp [holdsB]
          omega
        have HH : Hid _ := hh
        clear hh
        have wa := fun o => went.alloc o
        go_wp2_with fail
        refine (holds_any _ _ _ _ _).mono ?_
        rintro e w1 ⟨rfl, k1⟩
        have w2 := (wa _).still k1
        rw [HH.out]
        clear k1
        go_wp2
        exact ⟨Or.inr ⟨j + 1, by omega, by omega, by go_num, w2⟩, by simp [intOf]; omega⟩
      · have hj7 : ¬ (j : Int) < 7 := by omega
        go_wp2
        (first | go_end0 | refine bodyPost_ret (results_none rfl _ _ _) rfl ?_)
        exact ⟨rfl, went⟩

set_option maxRecDepth 100000 in
set_option maxHeartbeats 1000000 in
theorem bWrite_none {l : XL} {st : St} {ex : Ext} {w : World} (hr : XRep l st ex w) (a v : Int) (ha : 203 < a) :
    Calls Tryz.prog 139 #[.slice (some ⟨l.bs, 0, none⟩) 7 7, .int .u8 a, .int .u8 v] w fun e w' => e = .returned (.tuple #[]) ∧ Went l st ex w w' := by
  have hhi : ∀ j, slotHi j < a := fun j => by unfold slotHi; split <;> omega
  go_enter Tryz.func139, Tryz.ntmps139
  go_wp2
  go_loopw [10] (fun i wx => ∃ j : Nat, j ≤ 7 ∧ i = .int .i64 j ∧ Still w wx) (fun i _ => 7 - (intOf i).toNat)
  case atStart => exact ⟨0, by omega, rfl, Kept.refl _ _⟩
  case round =>
    obtain ⟨j, hj, rfl, kx⟩ := hrel
    have hrx := hr.kept kx (fun _ _ x => x)
    by_cases hj7' : j < 7
    · obtain ⟨s0, s1, s2⟩ := hrx.slot j hj7'
      have hj7 : (j : Int) < 7 := by omega
      have hbs := hrx.bs_q
      have hh : holdsB (slotLo j) (slotHi j) a = false := by
        have := hhi j
        simp [holdsB]
        omega
      have HH : Hid _ := hh
      clear hh
      go_wp2_with fail
      refine (holds_any _ _ _ _ _).mono ?_
      rintro e w1 ⟨rfl, k1⟩
      have kk : Still w w1 := (kx.alloc _).trans k1
      rw [HH.out]
      clear k1
      go_wp2
      exact ⟨⟨j + 1, by omega, by go_num, kk⟩, by simp [intOf]; omega⟩
    · have hj7 : ¬ (j : Int) < 7 := by omega
      go_wp2
      (first | go_end0 | refine bodyPost_ret (results_none rfl _ _ _) rfl ?_)
      exact ⟨rfl, Went.mk hrx (kx.wide (fun _ x => x.elim))⟩

/-- What a byte that is written does, in memory: to the state, but for count, age and resets. -/
def wrS (st : St) (a v : Int) : St :=
  if a < 128 then { st with mem := upd st.mem a.toNat v }
  else if a = 192 then { st with period := v, flag := false }
  else if a = 194 then { st with flag := false }
  else if a = 195 then { st with key := (v == 150) }
  else if a = 196 then winS st v
  else if a = 197 then { st with out := v }
  else if 199 ≤ a then st.updates a v
  else st

/-- And to what stands beside. -/
def wrX (st : St) (ex : Ext) (a v : Int) : Ext := if a = 192 then startX ex v else if a = 195 then keyX st ex v else ex

set_option maxRecDepth 100000 in
set_option maxHeartbeats 1000000 in
theorem bWrite_any {n : Nat} (hn : n < 4611686018427387904) {l : XL} {st : St} {ex : Ext} {w : World} (hr : XRep l st ex w) (hi : Inv st) (hc : Clk n st ex) (hd : DsOk ex.due) (hb : st.bank = 0 ∨ st.bank = 1) (a v : Int) (a0 : 0 ≤ a) (a1 : a ≤ 255) (v0 : 0 ≤ v) (v1 : v ≤ 255) :
    Calls Tryz.prog 139 #[.slice (some ⟨l.bs, 0, none⟩) 7 7, .int .u8 a, .int .u8 v] w fun e w' => e = .returned (.tuple #[]) ∧ Went l (wrS st a v) (wrX st ex a v) w w' := by
  have n0 := hc.n0
  have n1 : ex.now < 4611686018427387904 := by have := hc.n1; omega
  have kr : ∀ W, Still w W → XRep l st ex W := fun W hW => hr.kept hW (fun _ _ x => x)
  have hsl : ∀ (j0 : Nat) (hj0 : j0 < 7) (b : Int), b = a - slotLo j0 → 0 ≤ b → b ≤ slotHi j0 - slotLo j0 → ∀ (K : FuncId) (recv : Value),
    (∀ W : World, (method 310 (slotTy j0) (slotVal l j0) "nightwatch/board.write").run Tryz.prog W = .ok (K, recv) W) →
    (∀ (x y : Value) (W : World), (callFunc K #[recv, x, y]).run Tryz.prog W = .ok (.enter K #[recv, x, y]) W) →
    (∀ W : World, Still w W → Calls Tryz.prog K #[recv, .int .u8 b, .int .u8 v] W fun e W' => e = .returned (.tuple #[]) ∧ Went l (wrS st a v) (wrX st ex a v) W W') →
    Calls Tryz.prog 139 #[.slice (some ⟨l.bs, 0, none⟩) 7 7, .int .u8 a, .int .u8 v] w fun e w' => e = .returned (.tuple #[]) ∧ Went l (wrS st a v) (wrX st ex a v) w w' := fun j0 hj0 b hbb h0 h1 K recv hm hent hcall => by
    have hs0 : 0 ≤ slotLo j0 ∧ slotHi j0 ≤ 255 := by rcases seven hj0 with rfl | rfl | rfl | rfl | rfl | rfl | rfl <;> decide
    have e : (a - slotLo j0) % 256 = b := by rw [hbb]; omega
    exact bWrite_slot hr j0 hj0 a v (by omega) (by omega) K recv hm hent (fun W hW => by rw [e]; exact hcall W hW)
  have hx : ¬ a = 192 → ¬ a = 195 → wrX st ex a v = ex := fun h1 h2 => by unfold wrX; rw [if_neg h1, if_neg h2]
  by_cases c0 : a < 128
  · exact hsl 0 (by omega) a (by show a = a - 0; omega) a0 (by show a ≤ 127 - 0; omega) 147 _ (fun _ => by kernel_rfl) (fun _ _ _ => by kernel_rfl) (fun W hW => by
      have h := mwrite_any (kr W hW) a.toNat (by omega) v
      rw [Int.toNat_of_nonneg a0] at h
      exact h.mono fun e w' ⟨h1, h2⟩ => ⟨h1, h2.as (by unfold wrS; rw [if_pos c0]) (hx (by omega) (by omega)).symm⟩)
  by_cases c1 : a < 192
  · exact hsl 1 (by omega) (a - 128) rfl (by omega) (by show a - 128 ≤ 191 - 128; omega) 142 _ (fun _ => by kernel_rfl) (fun _ _ _ => by kernel_rfl) (fun W hW =>
      (gwrite_any (kr W hW) (a - 128) v).mono fun e w' ⟨h1, h2⟩ => ⟨h1, h2.as (by unfold wrS; rw [if_neg c0, if_neg (by omega), if_neg (by omega), if_neg (by omega), if_neg (by omega), if_neg (by omega), if_neg (by omega)]) (hx (by omega) (by omega)).symm⟩)
  by_cases c2 : 203 < a
  · refine (bWrite_none hr a v c2).mono fun e w' ⟨h1, h2⟩ => ⟨h1, h2.as ?_ (hx (by omega) (by omega)).symm⟩
    unfold wrS St.updates
    rw [if_neg c0, if_neg (by omega), if_neg (by omega), if_neg (by omega), if_neg (by omega), if_neg (by omega), if_pos (by omega), if_neg (by omega), if_neg (by omega), if_neg (by omega), if_neg (by omega)]
  have hh : a = 192 ∨ a = 193 ∨ a = 194 ∨ a = 195 ∨ a = 196 ∨ a = 197 ∨ a = 198 ∨ a = 199 ∨ a = 200 ∨ a = 201 ∨ a = 202 ∨ a = 203 := by omega
  clear c0 c1 c2
  rcases hh with rfl | rfl | rfl | rfl | rfl | rfl | rfl | rfl | rfl | rfl | rfl | rfl
  · exact hsl 2 (by omega) 0 rfl (by omega) (by decide) 149 _ (fun _ => by kernel_rfl) (fun _ _ _ => by kernel_rfl) (fun W hW => twrite_0 (kr W hW) hd n0 n1 v v0 v1)
  · exact hsl 2 (by omega) 1 rfl (by omega) (by decide) 149 _ (fun _ => by kernel_rfl) (fun _ _ _ => by kernel_rfl) (fun W hW => twrite_1 (kr W hW) v)
  · exact hsl 2 (by omega) 2 rfl (by omega) (by decide) 149 _ (fun _ => by kernel_rfl) (fun _ _ _ => by kernel_rfl) (fun W hW => twrite_2 (kr W hW) v)
  · exact hsl 3 (by omega) 0 rfl (by omega) (by decide) 151 _ (fun _ => by kernel_rfl) (fun _ _ _ => by kernel_rfl) (fun W hW => wwrite_0 hn (kr W hW) hi hc hd v)
  · exact hsl 3 (by omega) 1 rfl (by omega) (by decide) 151 _ (fun _ => by kernel_rfl) (fun _ _ _ => by kernel_rfl) (fun W hW => wwrite_1 (kr W hW) v)
  · exact hsl 4 (by omega) 0 rfl (by omega) (by decide) 156 _ (fun _ => by kernel_rfl) (fun _ _ _ => by kernel_rfl) (fun W hW => pwrite_0 (kr W hW) v)
  · exact hsl 4 (by omega) 1 rfl (by omega) (by decide) 156 _ (fun _ => by kernel_rfl) (fun _ _ _ => by kernel_rfl) (fun W hW => pwrite_1 (kr W hW) v)
  · exact hsl 5 (by omega) 0 rfl (by omega) (by decide) 158 _ (fun _ => by kernel_rfl) (fun _ _ _ => by kernel_rfl) (fun W hW => uwrite_0 (kr W hW) hb v)
  · exact hsl 5 (by omega) 1 rfl (by omega) (by decide) 158 _ (fun _ => by kernel_rfl) (fun _ _ _ => by kernel_rfl) (fun W hW => uwrite_1 (kr W hW) v v0 v1)
  · exact hsl 5 (by omega) 2 rfl (by omega) (by decide) 158 _ (fun _ => by kernel_rfl) (fun _ _ _ => by kernel_rfl) (fun W hW => uwrite_2 (kr W hW) hi hb v)
  · exact hsl 6 (by omega) 0 rfl (by omega) (by decide) 163 _ (fun _ => by kernel_rfl) (fun _ _ _ => by kernel_rfl) (fun W hW => cwrite_0 (kr W hW) v)
  · refine hsl 6 (by omega) 1 rfl (by omega) (by decide) 163 (.pointer (some ⟨l.re, 0, none⟩)) (fun _ => by kernel_rfl) (fun _ _ _ => by kernel_rfl) (fun W hW => ?_)
    by_cases hv : v = 13
    · subst hv
      exact cwrite_13 (kr W hW) hb
    · refine (cwrite_no (kr W hW) v (by simpa using hv)).mono fun e w' ⟨h1, h2⟩ => ⟨h1, h2.as ?_ rfl⟩
      show st = st.updates 203 v
      unfold St.updates
      rw [if_neg (by omega), if_neg (by omega), if_neg (by omega), if_pos rfl, if_neg hv]

end Go.Proofs.YtikdbpphbdbdnaaGreat
