/- The timer and the watch. -/
import Derived.Test.YtommhbidkoeifaaGreatQueue4
import Derived.Test.YtommhbidkoeifaaGreatBus
namespace Go.Proofs.YtommhbidkoeifaaGreat
open Go.RowKit
set_option linter.unusedVariables false

/-- Where the board lies behind a call that may have put something into the queue. -/
def Went (l : XL) (st : St) (ex : Ext) (w w' : World) : Prop := ∃ l', Grew l l' w ∧ XRep l' st ex w' ∧ Kept l.own w w'

theorem Grew.tm {l l' : XL} {w : World} (h : Grew l l' w) : l'.tm = l.tm := by obtain ⟨q, cap, rfl, _⟩ := h; rfl
theorem Grew.wa {l l' : XL} {w : World} (h : Grew l l' w) : l'.wa = l.wa := by obtain ⟨q, cap, rfl, _⟩ := h; rfl

theorem Grew.later {l l' : XL} {w0 w : World} (h : Grew l l' w) (hs : w0.heap.size ≤ w.heap.size) : Grew l l' w0 := by
  obtain ⟨q, cap, e, hh⟩ := h
  exact ⟨q, cap, e, fun x hx => (hh x hx).imp id (fun y => Nat.le_trans hs y)⟩

theorem Grew.trans {l l1 l2 : XL} {w w1 : World} (h : Grew l l1 w) (hs : w.heap.size ≤ w1.heap.size) (h2 : Grew l1 l2 w1) : Grew l l2 w := by
  obtain ⟨q, cap, rfl, hh⟩ := h
  obtain ⟨q2, cap2, rfl, hh2⟩ := h2
  refine ⟨q2, cap2, rfl, fun x hx => ?_⟩
  rcases hh2 x hx with y | y
  · exact hh x y
  · exact Or.inr (Nat.le_trans hs y)

theorem Went.before {l : XL} {st : St} {ex : Ext} {w w1 w2 : World} (hk : Kept l.own w w1) (h : Went l st ex w1 w2) : Went l st ex w w2 := by
  obtain ⟨l', g, r, k⟩ := h
  exact ⟨l', g.later hk.size, r, hk.trans k⟩

set_option maxRecDepth 100000 in
set_option maxHeartbeats 1000000 in
theorem twind_any {l : XL} {st : St} {ex : Ext} {w : World} (hr : XRep l st ex w) (hd : DsOk ex.due) (n0 : 0 ≤ ex.now) (n1 : ex.now < 4611686018427387904) (p0 : 0 ≤ st.period) (p1 : st.period ≤ 255) :
    Calls Tryz.prog 102 #[.pointer (some ⟨l.tm, 0, none⟩)] w fun e w' => e = .returned (.tuple #[]) ∧ Went l st { ex with next := ex.now + st.period, due := putD ex.due ⟨false, ex.now + st.period⟩ } w w' := by
  have c1 := hr.c_tck
  have c2 := hr.c_now
  have c3 := hr.c_period
  have c4 := hr.c_next
  have f4 := hr.f_next
  have hr2 := (hr.set_next (ex.now + st.period)).drew
  have k2 : Kept l.own w ((w.setCell ⟨l.tm, 2, none⟩ (.int .i64 (ex.now + st.period))).drew) := ((Kept.refl _ w).tm _ _).drew
  obtain ⟨w2, hw2⟩ : ∃ w2, w2 = (w.setCell ⟨l.tm, 2, none⟩ (.int .i64 (ex.now + st.period))).drew := ⟨_, rfl⟩
  rw [← hw2] at hr2 k2
  have HW : Hid _ := hw2
  clear hw2
  have HC : Hid (∀ W, Still w2 W → Calls Tryz.prog 104 #[.pointer (some ⟨l.ck, 1, none⟩), .iface 114 (.pointer (some ⟨l.tm, 0, none⟩)), .int .i64 (ex.now + st.period), .int .i64 0] W fun e w' => e = .returned (.tuple #[]) ∧ Went l st { ex with next := ex.now + st.period, due := putD ex.due ⟨false, ex.now + st.period⟩ } w w' ∧ (w'.cell? ⟨l.tm, 0, none⟩ = some (.pointer (some ⟨l.ck, 0, none⟩)) ∧ w'.cell? ⟨l.tm, 2, none⟩ = some (.int .i64 (ex.now + st.period)))) := fun W hW =>
    (qPut_any (hr2.kept hW (fun _ _ x => x)) false (ex.now + st.period) 0 rfl hd).mono fun e w' ⟨h1, l', g, h2, h3⟩ => by
      have a1 := h2.c_tck
      have a2 := h2.c_next
      rw [g.tm] at a1 a2
      rw [g.ck] at a1
      refine ⟨h1, Went.before (k2.trans (hW.wide (fun _ x => x.elim))) ⟨l', g, h2, h3⟩, a1, a2⟩
  have HS : Hid (∀ W, Still w2 W → W.cell? ⟨l.tm, 0, none⟩ = some (.pointer (some ⟨l.ck, 0, none⟩)) ∧ W.cell? ⟨l.tm, 2, none⟩ = some (.int .i64 (ex.now + st.period))) := fun W hW =>
    have h := hr2.kept hW (fun _ _ x => x)
    ⟨h.c_tck, h.c_next⟩
  go_enter Tryz.func102, Tryz.ntmps102
  go_wp2
  go_region
  rw [← HW.out]
  go_wp2
  go_region_held3 (fun W => W.cell? ⟨l.tm, 0, none⟩ = some (.pointer (some ⟨l.ck, 0, none⟩)) ∧ W.cell? ⟨l.tm, 2, none⟩ = some (.int .i64 (ex.now + st.period))) (first | assumption | (apply HS.out; unfold Still; (repeat (with_reducible first | apply Kept.alloc | apply Kept.drewN | apply Kept.drew | apply Kept.nb | apply Kept.g | apply Kept.bs | apply Kept.ck | apply Kept.bk | apply Kept.tm | apply Kept.wa | apply Kept.po | apply Kept.up | apply Kept.re | apply Kept.me | refine Kept.setCell ?_ (Or.inr (Nat.le_refl _)) _ | refine Kept.setCell ?_ (Or.inr (by omega)) _ | exact k1 | exact k2 | exact k3 | exact Kept.refl _ _)); done) | go_keep) (first | (go_at_call 104; refine (HC.out _ (by unfold Still; (repeat (with_reducible first | apply Kept.alloc | apply Kept.drewN | apply Kept.drew | apply Kept.nb | apply Kept.g | apply Kept.bs | apply Kept.ck | apply Kept.bk | apply Kept.tm | apply Kept.wa | apply Kept.po | apply Kept.up | apply Kept.re | apply Kept.me | refine Kept.setCell ?_ (Or.inr (Nat.le_refl _)) _ | refine Kept.setCell ?_ (Or.inr (by omega)) _ | exact k1 | exact k2 | exact k3 | exact Kept.refl _ _)))).mono ?_; rintro e w1 ⟨rfl, went, hkeep⟩))
  all_goals
    go_wp2
    (first | go_end0 | refine bodyPost_ret (results_none rfl _ _ _) rfl ?_)
    exact ⟨rfl, went⟩

/-- The timer's time behind a start. -/
def startX (ex : Ext) (p : Int) : Ext := if p = 0 then { ex with due := dropD false ex.due } else { ex with next := ex.now + p, due := putD (dropD false ex.due) ⟨false, ex.now + p⟩ }

theorem dropD_ok (b : Bool) {ds : List Du} (h : DsOk ds) : DsOk (dropD b ds) := by
  rcases dropD_len b h with e | ⟨d, e, _⟩
  · rw [e]; exact Or.inl rfl
  · rw [e]; exact Or.inr (Or.inl ⟨d, rfl⟩)

set_option maxRecDepth 100000 in
set_option maxHeartbeats 1000000 in
theorem tstart_any {l : XL} {st : St} {ex : Ext} {w : World} (hr : XRep l st ex w) (hd : DsOk ex.due) (n0 : 0 ≤ ex.now) (n1 : ex.now < 4611686018427387904) (p : Int) (p0 : 0 ≤ p) (p1 : p ≤ 255) :
    Calls Tryz.prog 93 #[.pointer (some ⟨l.tm, 0, none⟩), .int .u8 p] w fun e w' => e = .returned (.tuple #[]) ∧ Went l { st with period := p, flag := false } (startX ex p) w w' := by
  have c1 := hr.c_tck
  have c3 := hr.c_period
  have f3 := hr.f_period
  have c5 := hr.c_flag
  have f5 := hr.f_flag
  have hr2 := (hr.set_period p).set_flag false
  have k2 : Kept l.own w ((w.setCell ⟨l.tm, 1, none⟩ (.int .u8 p)).setCell ⟨l.tm, 3, none⟩ (.bool false)) := ((Kept.refl _ w).tm _ _).tm _ _
  have HD : Hid (Calls Tryz.prog 103 #[.pointer (some ⟨l.ck, 1, none⟩), .iface 114 (.pointer (some ⟨l.tm, 0, none⟩))] ((w.setCell ⟨l.tm, 1, none⟩ (.int .u8 p)).setCell ⟨l.tm, 3, none⟩ (.bool false)) fun e w' => e = .returned (.tuple #[]) ∧ XRep l { st with period := p, flag := false } { ex with due := dropD false ex.due } w' ∧ Kept l.own ((w.setCell ⟨l.tm, 1, none⟩ (.int .u8 p)).setCell ⟨l.tm, 3, none⟩ (.bool false)) w') := qDrop_any hr2 false hd
  by_cases hp : p = 0
  · have HF : Hid (startX ex p = { ex with due := dropD false ex.due }) := by unfold Hid startX; rw [if_pos hp]
    have hpn : (p != 0) = false := by rw [hp]; rfl
    clear hp
    go_enter Tryz.func93, Tryz.ntmps93
    go_wp2_with fail
    refine Calls.mono HD.out ?_
    rintro e w1 ⟨rfl, hr1, k1⟩
    have k3 := k2.trans k1
    go_wp2
    (first | go_end0 | refine bodyPost_ret (results_none rfl _ _ _) rfl ?_)
    refine ⟨rfl, l, Grew.refl l w, ?_, k3⟩
    rw [HF.out]; exact hr1
  · have HF : Hid (startX ex p = { ex with next := ex.now + p, due := putD (dropD false ex.due) ⟨false, ex.now + p⟩ }) := by unfold Hid startX; rw [if_neg hp]
    have hpn : (p != 0) = true := by rw [bne_iff_ne]; exact hp
    clear hp
    go_enter Tryz.func93, Tryz.ntmps93
    go_wp2_with fail
    refine Calls.mono HD.out ?_
    rintro e w1 ⟨rfl, hr1, k1⟩
    have k3 := k2.trans k1
    go_wp2_with fail
    refine (twind_any hr1 (dropD_ok false hd) n0 n1 p0 p1).mono ?_
    rintro e w3 ⟨rfl, went⟩
    have went2 := Went.before k3 went
    go_wp2
    (first | go_end0 | refine bodyPost_ret (results_none rfl _ _ _) rfl ?_)
    refine ⟨rfl, ?_⟩
    rw [HF.out]; exact went2

set_option maxRecDepth 100000 in
set_option maxHeartbeats 1000000 in
theorem tboot_any {l : XL} {st : St} {ex : Ext} {w : World} (hr : XRep l st ex w) (hd : DsOk ex.due) (n0 : 0 ≤ ex.now) (n1 : ex.now < 4611686018427387904) :
    Calls Tryz.prog 79 #[.pointer (some ⟨l.tm, 0, none⟩)] w fun e w' => e = .returned (.tuple #[]) ∧ Went l { st with period := 0, flag := false } { ex with due := dropD false ex.due } w w' := by
  go_enter Tryz.func79, Tryz.ntmps79
  go_wp2_with fail
  refine (tstart_any hr hd n0 n1 0 (by omega) (by omega)).mono ?_
  rintro e w1 ⟨rfl, went⟩
  go_wp2
  (first | go_end0 | refine bodyPost_ret (results_none rfl _ _ _) rfl ?_)
  exact ⟨rfl, went⟩

set_option maxRecDepth 100000 in
set_option maxHeartbeats 1000000 in
theorem tring_any {l : XL} {st : St} {ex : Ext} {w : World} (hr : XRep l st ex w) (hd : DsOk ex.due) (n0 : 0 ≤ ex.now) (n1 : ex.now < 4611686018427387904) (p0 : 0 ≤ st.period) (p1 : st.period ≤ 255) :
    Calls Tryz.prog 89 #[.pointer (some ⟨l.tm, 0, none⟩)] w fun e w' => e = .returned (.tuple #[]) ∧ Went l { st with flag := true } { ex with next := ex.now + st.period, due := putD ex.due ⟨false, ex.now + st.period⟩ } w w' := by
  have c5 := hr.c_flag
  have f5 := hr.f_flag
  have k2 : Kept l.own w (w.setCell ⟨l.tm, 3, none⟩ (.bool true)) := (Kept.refl _ w).tm _ _
  go_enter Tryz.func89, Tryz.ntmps89
  go_wp2_with fail
  refine (twind_any (hr.set_flag true) hd n0 n1 p0 p1).mono ?_
  rintro e w1 ⟨rfl, went⟩
  have went2 := Went.before k2 went
  go_wp2
  (first | go_end0 | refine bodyPost_ret (results_none rfl _ _ _) rfl ?_)
  exact ⟨rfl, went2⟩

set_option maxRecDepth 100000 in
set_option maxHeartbeats 1000000 in
theorem twrite_0 {l : XL} {st : St} {ex : Ext} {w : World} (hr : XRep l st ex w) (hd : DsOk ex.due) (n0 : 0 ≤ ex.now) (n1 : ex.now < 4611686018427387904) (p : Int) (p0 : 0 ≤ p) (p1 : p ≤ 255) :
    Calls Tryz.prog 144 #[.pointer (some ⟨l.tm, 0, none⟩), .int .u8 0, .int .u8 p] w fun e w' => e = .returned (.tuple #[]) ∧ Went l { st with period := p, flag := false } (startX ex p) w w' := by
  go_enter Tryz.func144, Tryz.ntmps144
  go_wp2_with fail
  refine (tstart_any hr hd n0 n1 p p0 p1).mono ?_
  rintro e w1 ⟨rfl, went⟩
  go_wp2
  (first | go_end0 | refine bodyPost_ret (results_none rfl _ _ _) rfl ?_)
  exact ⟨rfl, went⟩

set_option maxHeartbeats 400000 in
theorem twrite_1 {l : XL} {st : St} {ex : Ext} {w : World} (hr : XRep l st ex w) (v : Int) :
    Calls Tryz.prog 144 #[.pointer (some ⟨l.tm, 0, none⟩), .int .u8 1, .int .u8 v] w fun e w' => e = .returned (.tuple #[]) ∧ Went l st ex w w' := by
  go_enter Tryz.func144, Tryz.ntmps144
  go_wp2
  (first | go_end0 | refine bodyPost_ret (results_none rfl _ _ _) rfl ?_)
  exact ⟨rfl, l, Grew.refl l w, hr, Kept.refl _ _⟩

set_option maxHeartbeats 400000 in
theorem twrite_2 {l : XL} {st : St} {ex : Ext} {w : World} (hr : XRep l st ex w) (v : Int) :
    Calls Tryz.prog 144 #[.pointer (some ⟨l.tm, 0, none⟩), .int .u8 2, .int .u8 v] w fun e w' => e = .returned (.tuple #[]) ∧ Went l { st with flag := false } ex w w' := by
  have c5 := hr.c_flag
  have f5 := hr.f_flag
  go_enter Tryz.func144, Tryz.ntmps144
  go_wp2
  (first | go_end0 | refine bodyPost_ret (results_none rfl _ _ _) rfl ?_)
  exact ⟨rfl, l, Grew.refl l w, hr.set_flag _, (Kept.refl _ _).tm _ _⟩

/-- The watch's time behind a feed. -/
def feedX (ex : Ext) : Ext := { ex with fed := ex.now, due := putD ex.due ⟨true, ex.now + 251⟩ }

end Go.Proofs.YtommhbidkoeifaaGreat
