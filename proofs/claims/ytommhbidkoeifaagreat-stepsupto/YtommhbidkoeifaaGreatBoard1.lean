/- The program's board: a reset, the supply, what is shown, the choice and the boot. -/
import Derived.Test.YtommhbidkoeifaaGreatCpu8
namespace Go.Proofs.YtommhbidkoeifaaGreat
open Go.RowKit
set_option linter.unusedVariables false

set_option maxRecDepth 100000 in
set_option maxHeartbeats 400000 in
theorem xreset_no {l : XL} {st : St} {ex : Ext} {w : World} (hr : XRep l st ex w) (c : Int) (hc : strikesB c = false) :
    Calls Tryz.prog 59 #[.pointer (some ⟨l.g, 0, none⟩), .int .i64 c] w fun e w' => e = .returned (.tuple #[]) ∧ XRep l (st.reset c) ex w' ∧ Kept l.own w w' := by
  have HF : Hid (st.reset c = { st with cause := c, left := 4, rst := c }) := by simp [Hid, St.reset, hc]
  unfold strikesB at hc
  simp only [Bool.or_eq_false_iff] at hc
  obtain ⟨⟨h2, h3⟩, h4⟩ := hc
  have c1 := hr.c_re
  have c2 := hr.c_cause
  have f2 := hr.f_cause
  have c3 := hr.c_left
  have f3 := hr.f_left
  go_enter Tryz.func59, Tryz.ntmps59
  go_wp2
  (first | go_end0 | refine bodyPost_ret (results_none rfl _ _ _) rfl ?_)
  refine ⟨rfl, ?_, ((Kept.refl _ _).re _ _).g _ _⟩
  rw [HF.out]
  exact (((hr.set_cause c).set_left 4).ghost st.op st.opd st.phase st.count st.age st.inp c).as rfl rfl

set_option maxRecDepth 100000 in
set_option maxHeartbeats 400000 in
theorem xreset_yes {l : XL} {st : St} {ex : Ext} {w : World} (hr : XRep l st ex w) (c : Int) (hc : c = 2 ∨ c = 3 ∨ c = 4) (hb : st.bank = 0 ∨ st.bank = 1) :
    Calls Tryz.prog 59 #[.pointer (some ⟨l.g, 0, none⟩), .int .i64 c] w fun e w' => e = .returned (.tuple #[]) ∧ XRep l (st.reset c) ex w' ∧ Kept l.own w w' := by
  have hs : strikesB c = true := by rcases hc with rfl | rfl | rfl <;> rfl
  have HF : Hid (st.reset c = ({ st with cause := c, left := 4, rst := c } : St).setStrikes (wrap64 (({ st with cause := c, left := 4, rst := c } : St).strikes + 1))) := by unfold Hid St.reset; rw [if_pos hs]
  have hr2 : XRep l ({ st with cause := c, left := 4, rst := c } : St) ex ((w.setCell ⟨l.re, 0, none⟩ (.int .i64 c)).setCell ⟨l.g, 18, none⟩ (.int .i64 4)) := (((hr.set_cause c).set_left 4).ghost st.op st.opd st.phase st.count st.age st.inp c).as rfl rfl
  have HK : Hid (Calls Tryz.prog 71 #[.pointer (some ⟨l.bk, 0, none⟩)] ((w.setCell ⟨l.re, 0, none⟩ (.int .i64 c)).setCell ⟨l.g, 18, none⟩ (.int .i64 4)) fun e w' => e = .returned (.tuple #[]) ∧ XRep l (({ st with cause := c, left := 4, rst := c } : St).setStrikes (wrap64 (({ st with cause := c, left := 4, rst := c } : St).strikes + 1))) ex w' ∧ Kept l.own ((w.setCell ⟨l.re, 0, none⟩ (.int .i64 c)).setCell ⟨l.g, 18, none⟩ (.int .i64 4)) w') := by
    rcases hb with hb | hb
    · exact kstrike_0 hr2 hb
    · exact kstrike_1 hr2 hb
  have k0 : Kept l.own w ((w.setCell ⟨l.re, 0, none⟩ (.int .i64 c)).setCell ⟨l.g, 18, none⟩ (.int .i64 4)) := ((Kept.refl _ _).re _ _).g _ _
  have c1 := hr.c_re
  have c2 := hr.c_cause
  have f2 := hr.f_cause
  have c3 := hr.c_left
  have f3 := hr.f_left
  have c4 := hr.c_bk
  clear hs hb hr2
  rcases hc with rfl | rfl | rfl
  all_goals
    go_enter Tryz.func59, Tryz.ntmps59
    go_wp2_with fail
    refine Calls.mono HK.out ?_
    rintro e w1 ⟨rfl, hr1, k1⟩
    have k2 := k0.trans k1
    go_wp2
    (first | go_end0 | refine bodyPost_ret (results_none rfl _ _ _) rfl ?_)
    refine ⟨rfl, ?_, k2⟩
    rw [HF.out]
    exact hr1

theorem xreset_any {l : XL} {st : St} {ex : Ext} {w : World} (hr : XRep l st ex w) (c : Int) (h : strikesB c = false ∨ ((c = 2 ∨ c = 3 ∨ c = 4) ∧ (st.bank = 0 ∨ st.bank = 1))) :
    Calls Tryz.prog 59 #[.pointer (some ⟨l.g, 0, none⟩), .int .i64 c] w fun e w' => e = .returned (.tuple #[]) ∧ XRep l (st.reset c) ex w' ∧ Kept l.own w w' := by
  rcases h with h | ⟨h1, h2⟩
  · exact xreset_no hr c h
  · exact xreset_yes hr c h1 h2

set_option maxRecDepth 100000 in
set_option maxHeartbeats 400000 in
theorem xshow_any {l : XL} {st : St} {ex : Ext} {w : World} (hr : XRep l st ex w) (k a d o : Int) :
    Calls Tryz.prog 60 #[.pointer (some ⟨l.g, 0, none⟩), .agg #[.int .i64 k, .int .i64 a, .int .u8 d, .int .u8 o]] w fun e w' => e = .returned (.agg #[.int .i64 k, .int .i64 a, .int .u8 d, .int .u8 st.out]) ∧ Kept (fun _ => False) w w' := by
  have c1 := hr.c_po
  have c2 := hr.c_out
  have hgl := hr.g_q
  have hpl := hr.po_q
  go_enter Tryz.func60, Tryz.ntmps60
  go_wp2
  refine bodyPost_ret (v := .agg #[.int .i64 k, .int .i64 a, .int .u8 d, .int .u8 st.out]) (by simp [results, Tryz.results60, go_sem]) rfl ⟨rfl, ?k⟩
  case k => (repeat (with_reducible first | apply Kept.alloc | apply Kept.drewN | apply Kept.drew | apply Kept.nb | apply Kept.g | apply Kept.bs | apply Kept.ck | apply Kept.bk | apply Kept.tm | apply Kept.wa | apply Kept.po | apply Kept.up | apply Kept.re | apply Kept.me | refine Kept.setCell ?_ (Or.inr (Nat.le_refl _)) _ | refine Kept.setCell ?_ (Or.inr (by omega)) _ | exact k1 | exact k2 | exact k3 | exact Kept.refl _ _))

/-- The supply, without what comes in at the port. -/
def senseS (st : St) (v : Int) : St := if v < 2700 then { st with down := true } else if 3000 ≤ v then { st with down := false } else st

set_option maxRecDepth 100000 in
set_option maxHeartbeats 400000 in
theorem xsense_any {l : XL} {st : St} {ex : Ext} {w : World} (hr : XRep l st ex w) (v : Int) :
    Calls Tryz.prog 61 #[.pointer (some ⟨l.g, 0, none⟩), .int .i64 v] w fun e w' => e = .returned (.tuple #[]) ∧ XRep l (senseS st v) ex w' ∧ Kept l.own w w' := by
  have c1 := hr.c_down
  have f1 := hr.f_down
  by_cases h1 : v < 2700
  · have HF : Hid (senseS st v = { st with down := true }) := by unfold Hid senseS; rw [if_pos h1]
    have h2 : ¬ 3000 ≤ v := by omega
    go_enter Tryz.func61, Tryz.ntmps61
    go_wp2
    (first | go_end0 | refine bodyPost_ret (results_none rfl _ _ _) rfl ?_)
    refine ⟨rfl, ?_, (Kept.refl _ _).g _ _⟩
    rw [HF.out]; exact hr.set_down _
  · by_cases h2 : 3000 ≤ v
    · have HF : Hid (senseS st v = { st with down := false }) := by unfold Hid senseS; rw [if_neg h1, if_pos h2]
      go_enter Tryz.func61, Tryz.ntmps61
      go_wp2
      (first | go_end0 | refine bodyPost_ret (results_none rfl _ _ _) rfl ?_)
      refine ⟨rfl, ?_, (Kept.refl _ _).g _ _⟩
      rw [HF.out]; exact hr.set_down _
    · have HF : Hid (senseS st v = st) := by unfold Hid senseS; rw [if_neg h1, if_neg h2]
      go_enter Tryz.func61, Tryz.ntmps61
      go_wp2
      (first | go_end0 | refine bodyPost_ret (results_none rfl _ _ _) rfl ?_)
      refine ⟨rfl, ?_, Kept.refl _ _⟩
      rw [HF.out]; exact hr

set_option maxRecDepth 100000 in
set_option maxHeartbeats 400000 in
theorem zBoot_any {l : XL} {st : St} {ex : Ext} {w : World} (hr : XRep l st ex w) :
    Calls Tryz.prog 84 #[.pointer (some ⟨l.g, 0, none⟩)] w fun e w' => e = .returned (.tuple #[]) ∧ XRep l { st with a := 0, x := 0, pc := 130, zero := false, carry := false } { ex with ph := 0, op := 0, addr := 0, wait := false } w' ∧ Kept l.own w w' := by
  have c0 := hr.c_a
  have f0 := hr.f_a
  have c1 := hr.c_x
  have f1 := hr.f_x
  have c2 := hr.c_pc
  have f2 := hr.f_pc
  have c3 := hr.c_zero
  have f3 := hr.f_zero
  have c4 := hr.c_carry
  have f4 := hr.f_carry
  have c5 := hr.c_ph
  have f5 := hr.f_ph
  have c6 := hr.c_op
  have f6 := hr.f_op
  have c7 := hr.c_addr
  have f7 := hr.f_addr
  have c8 := hr.c_wait
  have f8 := hr.f_wait
  go_enter Tryz.func84, Tryz.ntmps84
  go_wp2
  (first | go_end0 | refine bodyPost_ret (results_none rfl _ _ _) rfl ?_)
  refine ⟨rfl, XRep.as ?r rfl rfl, ?k⟩
  case r => exact ((((((((hr.set_a 0).set_x 0).set_pc 130).set_zero false).set_carry false).set_ph 0).set_op 0).set_addr 0).set_wait false
  case k => (repeat (with_reducible first | apply Kept.alloc | apply Kept.drewN | apply Kept.drew | apply Kept.nb | apply Kept.g | apply Kept.bs | apply Kept.ck | apply Kept.bk | apply Kept.tm | apply Kept.wa | apply Kept.po | apply Kept.up | apply Kept.re | apply Kept.me | refine Kept.setCell ?_ (Or.inr (Nat.le_refl _)) _ | refine Kept.setCell ?_ (Or.inr (by omega)) _ | exact k1 | exact k2 | exact k3 | exact Kept.refl _ _))

/-- What the choice leaves of the strikes. -/
def chooseS (st : St) : St := { st with bank := chooseB (bankS st.b0) (bankS st.b1) st.s0 st.s1, s0 := leftS (bankS st.b0) (bankS st.b1) st.s0 st.s1 st.s0, s1 := leftS (bankS st.b0) (bankS st.b1) st.s0 st.s1 st.s1 }

set_option maxRecDepth 100000 in
set_option maxHeartbeats 1000000 in
theorem kchoose_any {l : XL} {st : St} {ex : Ext} {w : World} (hr : XRep l st ex w) (h0 : ∀ i, 0 ≤ st.b0 i ∧ st.b0 i ≤ 255) (h1 : ∀ i, 0 ≤ st.b1 i ∧ st.b1 i ≤ 255) :
    Calls Tryz.prog 83 #[.pointer (some ⟨l.bk, 0, none⟩)] w fun e w' => e = .returned (.tuple #[]) ∧ XRep l (chooseS st) ex w' ∧ Kept l.own w w' := by
  have c3 := hr.c_s0
  have c4 := hr.c_s1
  obtain ⟨s0, es0⟩ : ∃ s0, s0 = bankS st.b0 := ⟨_, rfl⟩
  obtain ⟨s1, es1⟩ : ∃ s1, s1 = bankS st.b1 := ⟨_, rfl⟩
  have HF : Hid (chooseS st = { st with bank := chooseB s0 s1 st.s0 st.s1, s0 := leftS s0 s1 st.s0 st.s1 st.s0, s1 := leftS s0 s1 st.s0 st.s1 st.s1 }) := by unfold Hid chooseS; rw [← es0, ← es1]
  have hm0 : s0.size ≤ maxLen := by rw [es0, bankS_size]; unfold maxLen; omega
  have hm1 : s1.size ≤ maxLen := by rw [es1, bankS_size]; unfold maxLen; omega
  have hv0 : ∀ W, Still w W → (convert 72 9 (.slice (some ⟨l.bk, 0, none⟩) 64 64)).run Tryz.prog W = .ok (.string s0) W := fun W hW => by
    rw [es0]
    exact run_bank_at W l.bk 0 64 st.b0 h0 (fun i hi => by rw [Nat.zero_add]; exact (hr.kept hW (fun _ _ x => x)).c_b0 i hi)
  have hv1 : ∀ W, Still w W → (convert 72 9 (.slice (some ⟨l.bk, 64, none⟩) 64 64)).run Tryz.prog W = .ok (.string s1) W := fun W hW => by
    rw [es1]
    exact run_bank_at W l.bk 64 64 st.b1 h1 (fun i hi => (hr.kept hW (fun _ _ x => x)).c_b1 i hi)
  have q0 : ∀ n, _ := fun n => hv0 (w.drewN n) ((Kept.refl _ _).drewN n)
  have q1 : ∀ n, _ := fun n => hv1 (w.drewN n) ((Kept.refl _ _).drewN n)
  have q2 := hv0 w.drew ((Kept.refl _ _).drew)
  have q3 := hv1 w.drew ((Kept.refl _ _).drew)
  clear es0 es1 hv0 hv1
  go_enter Tryz.func83, Tryz.ntmps83
  go_wp2
  go_region
  all_goals
    go_wp2_with fail
    refine (iDecide_any s0 s1 st.s0 st.s1 _ hm0 hm1).mono ?_
    rintro e w1 ⟨rfl, b1⟩
    have hr1 : XRep l st ex w1 := (hr.drew).below b1
    have k1 : Kept l.own w w1 := ((Kept.refl _ w).drew).trans (Kept.below b1)
    have d1 := hr1.c_bank
    have e1 := hr1.f_bank
    have d2 := hr1.c_s0
    have e2 := hr1.f_s0
    have d3 := hr1.c_s1
    have e3 := hr1.f_s1
    clear b1
    go_wp2
    (first | go_end0 | refine bodyPost_ret (results_none rfl _ _ _) rfl ?_)
    refine ⟨rfl, ?r, ?k⟩
    case r =>
      rw [HF.out]
      exact (((hr1.set_bank _).set_s0 _).set_s1 _).as rfl rfl
    case k => (repeat (with_reducible first | apply Kept.alloc | apply Kept.drewN | apply Kept.drew | apply Kept.nb | apply Kept.g | apply Kept.bs | apply Kept.ck | apply Kept.bk | apply Kept.tm | apply Kept.wa | apply Kept.po | apply Kept.up | apply Kept.re | apply Kept.me | refine Kept.setCell ?_ (Or.inr (Nat.le_refl _)) _ | refine Kept.setCell ?_ (Or.inr (by omega)) _ | exact k1 | exact k2 | exact k3 | exact Kept.refl _ _))

theorem Grew.po {l l' : XL} {w : World} (h : Grew l l' w) : l'.po = l.po := by obtain ⟨q, cap, rfl, _⟩ := h; rfl
theorem Grew.up {l l' : XL} {w : World} (h : Grew l l' w) : l'.up = l.up := by obtain ⟨q, cap, rfl, _⟩ := h; rfl
theorem Grew.bk {l l' : XL} {w : World} (h : Grew l l' w) : l'.bk = l.bk := by obtain ⟨q, cap, rfl, _⟩ := h; rfl
theorem Grew.re {l l' : XL} {w : World} (h : Grew l l' w) : l'.re = l.re := by obtain ⟨q, cap, rfl, _⟩ := h; rfl
theorem Grew.nb {l l' : XL} {w : World} (h : Grew l l' w) : l'.nb = l.nb := by obtain ⟨q, cap, rfl, _⟩ := h; rfl

/-- What stands beside, behind the boot. -/
def bootX (ex : Ext) : Ext := { ex with fed := ex.now, due := [⟨true, ex.now + 251⟩], ph := 0, op := 0, addr := 0, wait := false, early := false }

theorem drop_both {ds : List Du} (h : DsOk ds) (d : Du) (hd : d.wt = true) : putD (dropD false ds) d = [d] := by
  unfold putD
  rw [hd]
  rcases dropD_len false h with e | ⟨d', e, hw⟩
  · rw [e]; rfl
  · rw [e]
    have : dropD true [d'] = [] := by simp only [dropD]; rw [if_pos (by simpa using hw)]
    rw [this]; rfl

/-- The state in memory behind the boot. -/
def bootS (st : St) : St := { chooseS { st with period := 0, flag := false, window := 0, windowed := false, key := false, out := 0, opn := false, place := 0 } with a := 0, x := 0, pc := 130, zero := false, carry := false }

theorem bootS_alike (st : St) : Alike (bootS st) st.boot := by
  unfold Alike bootS chooseS St.boot leftS
  cases h : anewB (bankS st.b0) (bankS st.b1) st.s0 st.s1
  · simp
  · simp

set_option maxRecDepth 100000 in
set_option maxHeartbeats 1000000 in
theorem xboot_any {l : XL} {st : St} {ex : Ext} {w : World} (hr : XRep l st ex w) (hd : DsOk ex.due) (n0 : 0 ≤ ex.now) (n1 : ex.now < 4611686018427387904) (h0 : ∀ i, 0 ≤ st.b0 i ∧ st.b0 i ≤ 255) (h1 : ∀ i, 0 ≤ st.b1 i ∧ st.b1 i ≤ 255) :
    Calls Tryz.prog 72 #[.pointer (some ⟨l.g, 0, none⟩)] w fun e w' => e = .returned (.tuple #[]) ∧ Went l (bootS st) (bootX ex) w w' := by
  have c1 := hr.c_tm
  have c2 := hr.c_wa
  have c3 := hr.c_po
  have c4 := hr.c_up
  have c5 := hr.c_bk
  go_enter Tryz.func72, Tryz.ntmps72
  go_wp2_with fail
  refine (tboot_any hr hd n0 n1).mono ?_
  rintro e w1 ⟨rfl, l1, g1, r1, k1⟩
  have a2 := r1.c_wa
  rw [g1.g, g1.wa] at a2
  have HW : Hid _ := wboot_any r1 (dropD_ok false hd) n0 n1
  rw [g1.wa] at HW
  go_wp2_with fail
  refine Calls.mono HW.out ?_
  rintro e w2 ⟨rfl, l2, g2', r2, k2'⟩
  have g2 : Grew l l2 w := g1.trans k1.size g2'
  have k2 : Kept l.own w w2 := g1.kept k1.size k1 k2'
  clear g2' k2' HW
  have a3 := r2.c_po
  rw [g2.g, g2.po] at a3
  have HP : Hid _ := pboot_any r2
  rw [g2.po] at HP
  go_wp2_with fail
  refine Calls.mono HP.out ?_
  rintro e w3 ⟨rfl, r3, k3'⟩
  have k3 : Kept l.own w w3 := g2.kept k2.size k2 k3'
  clear k3' HP
  have a4 := r3.c_up
  rw [g2.g, g2.up] at a4
  have HU : Hid _ := uboot_any r3
  rw [g2.up] at HU
  go_wp2_with fail
  refine Calls.mono HU.out ?_
  rintro e w4 ⟨rfl, r4, k4'⟩
  have k4 : Kept l.own w w4 := g2.kept k3.size k3 k4'
  clear k4' HU
  have a5 := r4.c_bk
  rw [g2.g, g2.bk] at a5
  have HB : Hid _ := kchoose_any r4 h0 h1
  rw [g2.bk] at HB
  go_wp2_with fail
  refine Calls.mono HB.out ?_
  rintro e w5 ⟨rfl, r5, k5'⟩
  have k5 : Kept l.own w w5 := g2.kept k4.size k4 k5'
  clear k5' HB
  have HZ : Hid _ := zBoot_any r5
  rw [g2.g] at HZ
  go_wp2_with fail
  refine Calls.mono HZ.out ?_
  rintro e w6 ⟨rfl, r6, k6'⟩
  have k6 : Kept l.own w w6 := g2.kept k5.size k5 k6'
  clear k6' HZ
  go_wp2
  (first | go_end0 | refine bodyPost_ret (results_none rfl _ _ _) rfl ?_)
  refine ⟨rfl, l2, g2, r6.as rfl ?_, k6⟩
  unfold bootX feedX
  simp only
  rw [drop_both hd _ rfl]

theorem boot_rel {n : Nat} {st : St} {ex : Ext} (n0 : 0 ≤ ex.now) (n1 : ex.now ≤ n) : Rel n st.boot (bootX ex) := by
  have e : ∀ (f : St → Int), True := fun _ => trivial
  have hp : st.boot.period = 0 := by unfold St.boot; rfl
  have hc : st.boot.count = 0 := by unfold St.boot; rfl
  have ha : st.boot.age = 0 := by unfold St.boot; rfl
  have hf : st.boot.phase = 0 := by unfold St.boot; rfl
  refine ⟨⟨n0, n1, fun x => absurd hp x, fun _ => hc, ?_⟩, ?_, ⟨fun _ => ⟨rfl, rfl⟩, fun x => absurd (hf.symm.trans x) (by decide), fun x => absurd (hf.symm.trans x) (by decide), fun x => absurd (hf.symm.trans x) (by decide)⟩, rfl⟩
  · rw [ha]; show ex.now = ex.now - 0; omega
  · rw [hp]; rfl

end Go.Proofs.YtommhbidkoeifaaGreat
