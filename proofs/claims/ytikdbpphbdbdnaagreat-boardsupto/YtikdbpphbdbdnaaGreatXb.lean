/- Of several texts, one behind the other. -/
import Derived.Test.YtikdbpphbdbdnaaGreatXe
import Derived.Deep.LoopGhost
/- The program's board: a reset, the supply, what is shown, the choice and the boot. -/
namespace Go.Proofs.YtikdbpphbdbdnaaGreat
open Go.RowKit
set_option linter.unusedVariables false

set_option maxRecDepth 100000 in
set_option maxHeartbeats 400000 in
theorem xreset_no {l : XL} {st : St} {ex : Ext} {w : World} (hr : XRep l st ex w) (c : Int) (hc : strikesB c = false) :
    Calls Tryz.prog 64 #[.pointer (some ⟨l.g, 0, none⟩), .int .i64 c] w fun e w' => e = .returned (.tuple #[]) ∧ XRep l (st.reset c) ex w' ∧ Kept l.own w w' := by
  have HF : Hid (st.reset c = { st with cause := c, left := 4, rst := c }) := by simp [Hid, St.reset, hc]
  unfold strikesB at hc
  simp only [Bool.or_eq_false_iff] at hc
  obtain ⟨⟨h2, h3⟩, h4⟩ := hc
  have c1 := hr.c_re
  have c2 := hr.c_cause
  have f2 := hr.f_cause
  have c3 := hr.c_left
  have f3 := hr.f_left
  go_enter Tryz.func64, Tryz.ntmps64
  go_wp2
  (first | go_end0 | refine bodyPost_ret (results_none rfl _ _ _) rfl ?_)
  refine ⟨rfl, ?_, ((Kept.refl _ _).re _ _).g _ _⟩
  rw [HF.out]
  exact (((hr.set_cause c).set_left 4).ghost st.op st.opd st.phase st.count st.age st.inp c).as rfl rfl

set_option maxRecDepth 100000 in
set_option maxHeartbeats 400000 in
theorem xreset_yes {l : XL} {st : St} {ex : Ext} {w : World} (hr : XRep l st ex w) (c : Int) (hc : c = 2 ∨ c = 3 ∨ c = 4) (hb : st.bank = 0 ∨ st.bank = 1) :
    Calls Tryz.prog 64 #[.pointer (some ⟨l.g, 0, none⟩), .int .i64 c] w fun e w' => e = .returned (.tuple #[]) ∧ XRep l (st.reset c) ex w' ∧ Kept l.own w w' := by
  have hs : strikesB c = true := by rcases hc with rfl | rfl | rfl <;> rfl
  have HF : Hid (st.reset c = ({ st with cause := c, left := 4, rst := c } : St).setStrikes (wrap64 (({ st with cause := c, left := 4, rst := c } : St).strikes + 1))) := by unfold Hid St.reset; rw [if_pos hs]
  have hr2 : XRep l ({ st with cause := c, left := 4, rst := c } : St) ex ((w.setCell ⟨l.re, 0, none⟩ (.int .i64 c)).setCell ⟨l.g, 19, none⟩ (.int .i64 4)) := (((hr.set_cause c).set_left 4).ghost st.op st.opd st.phase st.count st.age st.inp c).as rfl rfl
  have HK : Hid (Calls Tryz.prog 76 #[.pointer (some ⟨l.bk, 0, none⟩)] ((w.setCell ⟨l.re, 0, none⟩ (.int .i64 c)).setCell ⟨l.g, 19, none⟩ (.int .i64 4)) fun e w' => e = .returned (.tuple #[]) ∧ XRep l (({ st with cause := c, left := 4, rst := c } : St).setStrikes (wrap64 (({ st with cause := c, left := 4, rst := c } : St).strikes + 1))) ex w' ∧ Kept l.own ((w.setCell ⟨l.re, 0, none⟩ (.int .i64 c)).setCell ⟨l.g, 19, none⟩ (.int .i64 4)) w') := by
    rcases hb with hb | hb
    · exact kstrike_0 hr2 hb
    · exact kstrike_1 hr2 hb
  have k0 : Kept l.own w ((w.setCell ⟨l.re, 0, none⟩ (.int .i64 c)).setCell ⟨l.g, 19, none⟩ (.int .i64 4)) := ((Kept.refl _ _).re _ _).g _ _
  have c1 := hr.c_re
  have c2 := hr.c_cause
  have f2 := hr.f_cause
  have c3 := hr.c_left
  have f3 := hr.f_left
  have c4 := hr.c_bk
  clear hs hb hr2
  rcases hc with rfl | rfl | rfl
  all_goals
    go_enter Tryz.func64, Tryz.ntmps64
    go_wp2_with fail
    refine Calls.mono HK.out ?_
    rintro e w1 ⟨rfl, hr1, k1⟩
    have k2 := k0.trans k1
    go_wp2
    (first | go_end0 | refine bodyPost_ret (results_none rfl _ _ _) rfl ?_)
    refine ⟨rfl, ?_, k2⟩
    rw [HF.out]
    exact hr1

theorem xreset_any {l : XL} {st : St} {ex : Ext} {w : World} (hr : XRep l st ex w) (c : Int) (h : strikesB c = false ∨ ((c = 2 ∨ c = 3 ∨ c = 4) ∧ (st.bank = 0 ∨ st.bank = 1))) :
    Calls Tryz.prog 64 #[.pointer (some ⟨l.g, 0, none⟩), .int .i64 c] w fun e w' => e = .returned (.tuple #[]) ∧ XRep l (st.reset c) ex w' ∧ Kept l.own w w' := by
  rcases h with h | ⟨h1, h2⟩
  · exact xreset_no hr c h
  · exact xreset_yes hr c h1 h2

set_option maxRecDepth 100000 in
set_option maxHeartbeats 400000 in
theorem xshow_any {l : XL} {st : St} {ex : Ext} {w : World} (hr : XRep l st ex w) (k a d o : Int) :
    Calls Tryz.prog 65 #[.pointer (some ⟨l.g, 0, none⟩), .agg #[.int .i64 k, .int .i64 a, .int .u8 d, .int .u8 o]] w fun e w' => e = .returned (.agg #[.int .i64 k, .int .i64 a, .int .u8 d, .int .u8 st.out]) ∧ Kept (fun _ => False) w w' := by
  have c1 := hr.c_po
  have c2 := hr.c_out
  have hgl := hr.g_q
  have hpl := hr.po_q
  go_enter Tryz.func65, Tryz.ntmps65
  go_wp2
  refine bodyPost_ret (v := .agg #[.int .i64 k, .int .i64 a, .int .u8 d, .int .u8 st.out]) (by simp [results, Tryz.results65, go_sem]) rfl ⟨rfl, ?k⟩
  case k => (repeat (with_reducible first | apply Kept.alloc | apply Kept.drewN | apply Kept.drew | apply Kept.nb | apply Kept.g | apply Kept.bs | apply Kept.ck | apply Kept.bk | apply Kept.tm | apply Kept.wa | apply Kept.po | apply Kept.up | apply Kept.re | apply Kept.me | refine Kept.setCell ?_ (Or.inr (Nat.le_refl _)) _ | refine Kept.setCell ?_ (Or.inr (by omega)) _ | exact k1 | exact k2 | exact k3 | exact Kept.refl _ _))

/-- The supply, without what comes in at the port. -/
def senseS (st : St) (v : Int) : St := if v < 2700 then { st with down := true } else if 3000 ≤ v then { st with down := false } else st

set_option maxRecDepth 100000 in
set_option maxHeartbeats 400000 in
theorem xsense_any {l : XL} {st : St} {ex : Ext} {w : World} (hr : XRep l st ex w) (v : Int) :
    Calls Tryz.prog 66 #[.pointer (some ⟨l.g, 0, none⟩), .int .i64 v] w fun e w' => e = .returned (.tuple #[]) ∧ XRep l (senseS st v) ex w' ∧ Kept l.own w w' := by
  have c1 := hr.c_down
  have f1 := hr.f_down
  by_cases h1 : v < 2700
  · have HF : Hid (senseS st v = { st with down := true }) := by unfold Hid senseS; rw [if_pos h1]
    have h2 : ¬ 3000 ≤ v := by omega
    go_enter Tryz.func66, Tryz.ntmps66
    go_wp2
    (first | go_end0 | refine bodyPost_ret (results_none rfl _ _ _) rfl ?_)
    refine ⟨rfl, ?_, (Kept.refl _ _).g _ _⟩
    rw [HF.out]; exact hr.set_down _
  · by_cases h2 : 3000 ≤ v
    · have HF : Hid (senseS st v = { st with down := false }) := by unfold Hid senseS; rw [if_neg h1, if_pos h2]
      go_enter Tryz.func66, Tryz.ntmps66
      go_wp2
      (first | go_end0 | refine bodyPost_ret (results_none rfl _ _ _) rfl ?_)
      refine ⟨rfl, ?_, (Kept.refl _ _).g _ _⟩
      rw [HF.out]; exact hr.set_down _
    · have HF : Hid (senseS st v = st) := by unfold Hid senseS; rw [if_neg h1, if_neg h2]
      go_enter Tryz.func66, Tryz.ntmps66
      go_wp2
      (first | go_end0 | refine bodyPost_ret (results_none rfl _ _ _) rfl ?_)
      refine ⟨rfl, ?_, Kept.refl _ _⟩
      rw [HF.out]; exact hr

set_option maxRecDepth 100000 in
set_option maxHeartbeats 400000 in
theorem zBoot_any {l : XL} {st : St} {ex : Ext} {w : World} (hr : XRep l st ex w) :
    Calls Tryz.prog 89 #[.pointer (some ⟨l.g, 0, none⟩)] w fun e w' => e = .returned (.tuple #[]) ∧ XRep l { st with a := 0, x := 0, pc := 130, zero := false, carry := false } { ex with ph := 0, op := 0, addr := 0, wait := false } w' ∧ Kept l.own w w' := by
  have c0 := hr.c_a
  have f0 := hr.f_a
  have c1 := hr.c_x
  have f1 := hr.f_x
  have c2 := hr.c_pc
  have f2 := hr.f_pc
  have c3 := hr.c_zero
  have f3 := hr.f_zero
  have c4 := hr.c_carry
  have f4 := hr.f_carry
  have c5 := hr.c_ph
  have f5 := hr.f_ph
  have c6 := hr.c_op
  have f6 := hr.f_op
  have c7 := hr.c_addr
  have f7 := hr.f_addr
  have c8 := hr.c_wait
  have f8 := hr.f_wait
  go_enter Tryz.func89, Tryz.ntmps89
  go_wp2
  (first | go_end0 | refine bodyPost_ret (results_none rfl _ _ _) rfl ?_)
  refine ⟨rfl, XRep.as ?r rfl rfl, ?k⟩
  case r => exact ((((((((hr.set_a 0).set_x 0).set_pc 130).set_zero false).set_carry false).set_ph 0).set_op 0).set_addr 0).set_wait false
  case k => (repeat (with_reducible first | apply Kept.alloc | apply Kept.drewN | apply Kept.drew | apply Kept.nb | apply Kept.g | apply Kept.bs | apply Kept.ck | apply Kept.bk | apply Kept.tm | apply Kept.wa | apply Kept.po | apply Kept.up | apply Kept.re | apply Kept.me | refine Kept.setCell ?_ (Or.inr (Nat.le_refl _)) _ | refine Kept.setCell ?_ (Or.inr (by omega)) _ | exact k1 | exact k2 | exact k3 | exact Kept.refl _ _))

/-- What the choice leaves of the strikes. -/
def chooseS (st : St) : St := { st with bank := chooseB (bankS st.b0) (bankS st.b1) st.s0 st.s1, s0 := leftS (bankS st.b0) (bankS st.b1) st.s0 st.s1 st.s0, s1 := leftS (bankS st.b0) (bankS st.b1) st.s0 st.s1 st.s1 }

set_option maxRecDepth 100000 in
set_option maxHeartbeats 1000000 in
theorem kchoose_any {l : XL} {st : St} {ex : Ext} {w : World} (hr : XRep l st ex w) (h0 : ∀ i, 0 ≤ st.b0 i ∧ st.b0 i ≤ 255) (h1 : ∀ i, 0 ≤ st.b1 i ∧ st.b1 i ≤ 255) :
    Calls Tryz.prog 88 #[.pointer (some ⟨l.bk, 0, none⟩)] w fun e w' => e = .returned (.tuple #[]) ∧ XRep l (chooseS st) ex w' ∧ Kept l.own w w' := by
  have c3 := hr.c_s0
  have c4 := hr.c_s1
  obtain ⟨s0, es0⟩ : ∃ s0, s0 = bankS st.b0 := ⟨_, rfl⟩
  obtain ⟨s1, es1⟩ : ∃ s1, s1 = bankS st.b1 := ⟨_, rfl⟩
  have HF : Hid (chooseS st = { st with bank := chooseB s0 s1 st.s0 st.s1, s0 := leftS s0 s1 st.s0 st.s1 st.s0, s1 := leftS s0 s1 st.s0 st.s1 st.s1 }) := by unfold Hid chooseS; rw [← es0, ← es1]
  have hm0 : s0.size ≤ maxLen := by rw [es0, bankS_size]; unfold maxLen; omega
  have hm1 : s1.size ≤ maxLen := by rw [es1, bankS_size]; unfold maxLen; omega
  have hv0 : ∀ W, Still w W → (convert 72 9 (.slice (some ⟨l.bk, 0, none⟩) 64 64)).run Tryz.prog W = .ok (.string s0) W := fun W hW => by
    rw [es0]
    exact run_bank_at W l.bk 0 64 st.b0 h0 (fun i hi => by rw [Nat.zero_add]; exact (hr.kept hW (fun _ _ x => x)).c_b0 i hi)
  have hv1 : ∀ W, Still w W → (convert 72 9 (.slice (some ⟨l.bk, 64, none⟩) 64 64)).run Tryz.prog W = .ok (.string s1) W := fun W hW => by
    rw [es1]
    exact run_bank_at W l.bk 64 64 st.b1 h1 (fun i hi => (hr.kept hW (fun _ _ x => x)).c_b1 i hi)
  have q0 : ∀ n, _ := fun n => hv0 (w.drewN n) ((Kept.refl _ _).drewN n)
  have q1 : ∀ n, _ := fun n => hv1 (w.drewN n) ((Kept.refl _ _).drewN n)
  have q2 := hv0 w.drew ((Kept.refl _ _).drew)
  have q3 := hv1 w.drew ((Kept.refl _ _).drew)
  clear es0 es1 hv0 hv1
  go_enter Tryz.func88, Tryz.ntmps88
  go_wp2
  go_region
  all_goals
    go_wp2_with fail
    refine (iDecide_any s0 s1 st.s0 st.s1 _ hm0 hm1).mono ?_
    rintro e w1 ⟨rfl, b1⟩
    have hr1 : XRep l st ex w1 := (hr.drew).below b1
    have k1 : Kept l.own w w1 := ((Kept.refl _ w).drew).trans (Kept.below b1)
    have d1 := hr1.c_bank
    have e1 := hr1.f_bank
    have d2 := hr1.c_s0
    have e2 := hr1.f_s0
    have d3 := hr1.c_s1
    have e3 := hr1.f_s1
    clear b1
    go_wp2
    (first | go_end0 | refine bodyPost_ret (results_none rfl _ _ _) rfl ?_)
    refine ⟨rfl, ?r, ?k⟩
    case r =>
      rw [HF.out]
      exact (((hr1.set_bank _).set_s0 _).set_s1 _).as rfl rfl
    case k => (repeat (with_reducible first | apply Kept.alloc | apply Kept.drewN | apply Kept.drew | apply Kept.nb | apply Kept.g | apply Kept.bs | apply Kept.ck | apply Kept.bk | apply Kept.tm | apply Kept.wa | apply Kept.po | apply Kept.up | apply Kept.re | apply Kept.me | refine Kept.setCell ?_ (Or.inr (Nat.le_refl _)) _ | refine Kept.setCell ?_ (Or.inr (by omega)) _ | exact k1 | exact k2 | exact k3 | exact Kept.refl _ _))

theorem Grew.po {l l' : XL} {w : World} (h : Grew l l' w) : l'.po = l.po := by obtain ⟨q, cap, rfl, _⟩ := h; rfl
theorem Grew.up {l l' : XL} {w : World} (h : Grew l l' w) : l'.up = l.up := by obtain ⟨q, cap, rfl, _⟩ := h; rfl
theorem Grew.bk {l l' : XL} {w : World} (h : Grew l l' w) : l'.bk = l.bk := by obtain ⟨q, cap, rfl, _⟩ := h; rfl
theorem Grew.re {l l' : XL} {w : World} (h : Grew l l' w) : l'.re = l.re := by obtain ⟨q, cap, rfl, _⟩ := h; rfl
theorem Grew.nb {l l' : XL} {w : World} (h : Grew l l' w) : l'.nb = l.nb := by obtain ⟨q, cap, rfl, _⟩ := h; rfl

/-- What stands beside, behind the boot. -/
def bootX (ex : Ext) : Ext := { ex with fed := ex.now, due := [⟨true, ex.now + 251⟩], ph := 0, op := 0, addr := 0, wait := false, early := false }

theorem drop_both {ds : List Du} (h : DsOk ds) (d : Du) (hd : d.wt = true) : putD (dropD false ds) d = [d] := by
  unfold putD
  rw [hd]
  rcases dropD_len false h with e | ⟨d', e, hw⟩
  · rw [e]; rfl
  · rw [e]
    have : dropD true [d'] = [] := by simp only [dropD]; rw [if_pos (by simpa using hw)]
    rw [this]; rfl

/-- The state in memory behind the boot. -/
def bootS (st : St) : St := { chooseS { st with period := 0, flag := false, window := 0, windowed := false, key := false, out := 0, opn := false, place := 0 } with a := 0, x := 0, pc := 130, zero := false, carry := false }

theorem bootS_alike (st : St) : Alike (bootS st) st.boot := by
  unfold Alike bootS chooseS St.boot leftS
  cases h : anewB (bankS st.b0) (bankS st.b1) st.s0 st.s1
  · simp
  · simp

set_option maxRecDepth 100000 in
set_option maxHeartbeats 1000000 in
theorem xboot_any {l : XL} {st : St} {ex : Ext} {w : World} (hr : XRep l st ex w) (hd : DsOk ex.due) (n0 : 0 ≤ ex.now) (n1 : ex.now < 4611686018427387904) (h0 : ∀ i, 0 ≤ st.b0 i ∧ st.b0 i ≤ 255) (h1 : ∀ i, 0 ≤ st.b1 i ∧ st.b1 i ≤ 255) :
    Calls Tryz.prog 77 #[.pointer (some ⟨l.g, 0, none⟩)] w fun e w' => e = .returned (.tuple #[]) ∧ Went l (bootS st) (bootX ex) w w' := by
  have c1 := hr.c_tm
  have c2 := hr.c_wa
  have c3 := hr.c_po
  have c4 := hr.c_up
  have c5 := hr.c_bk
  go_enter Tryz.func77, Tryz.ntmps77
  go_wp2_with fail
  refine (tboot_any hr hd n0 n1).mono ?_
  rintro e w1 ⟨rfl, l1, g1, r1, k1⟩
  have a2 := r1.c_wa
  rw [g1.g, g1.wa] at a2
  have HW : Hid _ := wboot_any r1 (dropD_ok false hd) n0 n1
  rw [g1.wa] at HW
  go_wp2_with fail
  refine Calls.mono HW.out ?_
  rintro e w2 ⟨rfl, l2, g2', r2, k2'⟩
  have g2 : Grew l l2 w := g1.trans k1.size g2'
  have k2 : Kept l.own w w2 := g1.kept k1.size k1 k2'
  clear g2' k2' HW
  have a3 := r2.c_po
  rw [g2.g, g2.po] at a3
  have HP : Hid _ := pboot_any r2
  rw [g2.po] at HP
  go_wp2_with fail
  refine Calls.mono HP.out ?_
  rintro e w3 ⟨rfl, r3, k3'⟩
  have k3 : Kept l.own w w3 := g2.kept k2.size k2 k3'
  clear k3' HP
  have a4 := r3.c_up
  rw [g2.g, g2.up] at a4
  have HU : Hid _ := uboot_any r3
  rw [g2.up] at HU
  go_wp2_with fail
  refine Calls.mono HU.out ?_
  rintro e w4 ⟨rfl, r4, k4'⟩
  have k4 : Kept l.own w w4 := g2.kept k3.size k3 k4'
  clear k4' HU
  have a5 := r4.c_bk
  rw [g2.g, g2.bk] at a5
  have HB : Hid _ := kchoose_any r4 h0 h1
  rw [g2.bk] at HB
  go_wp2_with fail
  refine Calls.mono HB.out ?_
  rintro e w5 ⟨rfl, r5, k5'⟩
  have k5 : Kept l.own w w5 := g2.kept k4.size k4 k5'
  clear k5' HB
  have HZ : Hid _ := zBoot_any r5
  rw [g2.g] at HZ
  go_wp2_with fail
  refine Calls.mono HZ.out ?_
  rintro e w6 ⟨rfl, r6, k6'⟩
  have k6 : Kept l.own w w6 := g2.kept k5.size k5 k6'
  clear k6' HZ
  go_wp2
  (first | go_end0 | refine bodyPost_ret (results_none rfl _ _ _) rfl ?_)
  refine ⟨rfl, l2, g2, r6.as rfl ?_, k6⟩
  unfold bootX feedX
  simp only
  rw [drop_both hd _ rfl]

theorem boot_rel {n : Nat} {st : St} {ex : Ext} (n0 : 0 ≤ ex.now) (n1 : ex.now ≤ n) : Rel n st.boot (bootX ex) := by
  have e : ∀ (f : St → Int), True := fun _ => trivial
  have hp : st.boot.period = 0 := by unfold St.boot; rfl
  have hc : st.boot.count = 0 := by unfold St.boot; rfl
  have ha : st.boot.age = 0 := by unfold St.boot; rfl
  have hf : st.boot.phase = 0 := by unfold St.boot; rfl
  refine ⟨⟨n0, n1, fun x => absurd hp x, fun _ => hc, ?_⟩, ?_, ⟨fun _ => ⟨rfl, rfl⟩, fun x => absurd (hf.symm.trans x) (by decide), fun x => absurd (hf.symm.trans x) (by decide), fun x => absurd (hf.symm.trans x) (by decide)⟩, rfl⟩
  · rw [ha]; show ex.now = ex.now - 0; omega
  · rw [hp]; rfl

end Go.Proofs.YtikdbpphbdbdnaaGreat

/- The program's board: one cycle for timer and watch. -/
namespace Go.Proofs.YtikdbpphbdbdnaaGreat
open Go.RowKit
set_option linter.unusedVariables false

theorem ta_tt (v : Value) (w : World) : (Instr.typeAssert (.iface 116 v) 139 116 true).run Tryz.prog w = .ok (.tuple #[v, .bool true]) w := by kernel_rfl
theorem ta_wt (v : Value) (w : World) : (Instr.typeAssert (.iface 119 v) 139 116 true).run Tryz.prog w = .ok (.tuple #[.pointer none, .bool false]) w := by kernel_rfl
theorem ta_ww (v : Value) (w : World) : (Instr.typeAssert (.iface 119 v) 139 119 true).run Tryz.prog w = .ok (.tuple #[v, .bool true]) w := by kernel_rfl

/-- What is due is taken out, one behind the other, k rounds at most. -/
def tk : Nat → St → Ext → Option (St × Ext)
  | 0, S, E => none
  | k + 1, S, E => match E.due with
    | [] => some (S, E)
    | d :: r => if E.now < d.at_ then some (S, E) else if d.wt = true then tk k (S.reset 2) { E with due := r } else tk k { S with flag := true } { E with next := E.now + S.period, due := putD r ⟨false, E.now + S.period⟩ }

theorem DsOk.tail {d : Du} {r : List Du} (h : DsOk (d :: r)) : DsOk r := by
  rcases h with h | ⟨d', h⟩ | ⟨d0, d1, h, _⟩
  · cases h
  · cases h; exact Or.inl rfl
  · cases h; exact Or.inr (Or.inl ⟨_, rfl⟩)

theorem DsOk.len {ds : List Du} (h : DsOk ds) : ds.length ≤ 2 := by
  rcases h with rfl | ⟨d', rfl⟩ | ⟨d0, d1, rfl, _⟩ <;> simp

theorem DsOk.put {ds : List Du} (h : DsOk ds) (d : Du) : DsOk (putD ds d) := by
  unfold putD
  rcases dropD_len d.wt h with e | ⟨d', e, hw⟩
  · rw [e]; exact Or.inr (Or.inl ⟨d, rfl⟩)
  · rw [e]
    unfold pushD
    simp only
    split
    · exact Or.inr (Or.inr ⟨d, d', rfl, hw⟩)
    · exact Or.inr (Or.inr ⟨d', d, rfl, by rw [hw]; simp⟩)

set_option maxRecDepth 100000 in
set_option maxHeartbeats 2000000 in
theorem xtick_walk {l : XL} {st : St} {ex : Ext} {w : World} (hr : XRep l st ex w) (hd : DsOk ex.due) (n0 : 0 ≤ ex.now) (n1 : ex.now < 4611686018427387903) (p0 : 0 ≤ st.period) (p1 : st.period ≤ 255) (hb : st.bank = 0 ∨ st.bank = 1) (k : Nat) (T : St) (F : Ext) (ht : tk k st { ex with now := ex.now + 1 } = some (T, F)) :
    Calls Tryz.prog 79 #[.pointer (some ⟨l.g, 0, none⟩)] w fun e w' => e = .returned (.tuple #[]) ∧ Went l T F w w' := by
  have c1 := hr.c_ck
  have c2 := hr.c_now
  have f2 := hr.f_now
  have hr0 := hr.set_now (ex.now + 1)
  have k0 : Kept l.own w (w.setCell ⟨l.ck, 0, none⟩ (.int .i64 (ex.now + 1))) := (Kept.refl _ _).ck _ _
  have HT : Hid _ := ht
  have HB : Hid _ := hb
  have HR : Hid _ := hr0
  have hnot : ∀ (x : Bool) (w : World), (Op.unary .not (.bool x)).run Tryz.prog w = .ok (.bool (!x)) w := fun _ _ => rfl
  have t1 := ta_tt
  have t2 := ta_wt
  have t3 := ta_ww
  clear ht hb hr0
  go_enter Tryz.func79, Tryz.ntmps79
  go_wp2
  go_loopg [2, 3, 4, 5] k (fun k a b c d wx => ∃ (l' : XL) (S : St) (E : Ext), tk k S E = some (T, F) ∧ Grew l l' w ∧ XRep l' S E wx ∧ Kept l.own w wx ∧ DsOk E.due ∧ 0 ≤ E.now ∧ E.now < 4611686018427387904 ∧ 0 ≤ S.period ∧ S.period ≤ 255 ∧ (S.bank = 0 ∨ S.bank = 1))
  case atStart => exact ⟨l, st, _, HT.out, Grew.refl l w, HR.out, k0, hd, by show 0 ≤ ex.now + 1; omega, by show ex.now + 1 < _; omega, p0, p1, HB.out⟩
  case round =>
    obtain ⟨l', S, E, htk, gl, rl, kl, hdl, m0, m1, q0, q1, hbl⟩ := hrel
    clear HT HR HB
    have e1 := gl.g
    have e2 := gl.ck
    have HS : Hid (∀ W, Kept (fun _ => False) wr W → W.cell? ⟨l.g, 10, none⟩ = some (.pointer (some ⟨l.ck, 0, none⟩)) ∧ W.cell? ⟨l.ck, 0, none⟩ = some (.int .i64 E.now)) := fun W hW => by
      have a1 := (rl.kept hW (fun _ _ x => x)).c_ck
      have a2 := (rl.kept hW (fun _ _ x => x)).c_now
      rw [e1, e2] at a1
      rw [e2] at a2
      exact ⟨a1, a2⟩
    obtain ⟨gj, hgj⟩ : ∃ gj, gk = gj + 1 := by
      cases gk with
      | zero => cases htk
      | succ j => exact ⟨j, rfl⟩
    subst hgj
    by_cases hnone : E.due = [] ∨ ∃ d r, E.due = d :: r ∧ E.now < d.at_
    · have HTF : Hid (S = T ∧ E = F) := by
        unfold tk at htk
        rcases hnone with h | ⟨d, r, h, h2⟩
        · rw [h] at htk; simp only [Option.some.injEq, Prod.mk.injEq] at htk; exact htk
        · rw [h] at htk; simp only [if_pos h2, Option.some.injEq, Prod.mk.injEq] at htk; exact htk
      have HC : Hid (∀ W, Kept (fun _ => False) wr W → Calls Tryz.prog 93 #[.pointer (some ⟨l.ck, 1, none⟩), .int .i64 E.now] W fun e w' => e = .returned (.tuple #[.nilIface, .bool false]) ∧ w' = W) := fun W hW => by
        have hc := qTake_none (rl.kept hW (fun _ _ x => x)) E.now hnone hdl.len
        rw [e2] at hc
        exact hc
      have HFIN : Hid (∀ W, Kept (fun _ => False) wr W → Went l T F w W) := fun W hW => by
        rw [← HTF.out.1, ← HTF.out.2]
        exact ⟨l', gl, rl.kept hW (fun _ _ x => x), kl.trans (hW.wide (fun _ x => x.elim))⟩
      clear htk hnone e1 e2 kl gl rl
      go_wp2
      go_region_held3 (fun W => W.cell? ⟨l.g, 10, none⟩ = some (.pointer (some ⟨l.ck, 0, none⟩)) ∧ W.cell? ⟨l.ck, 0, none⟩ = some (.int .i64 E.now)) (first | (apply HS.out; (repeat (with_reducible first | apply Kept.alloc | apply Kept.drewN | apply Kept.drew | apply Kept.nb | apply Kept.g | apply Kept.bs | apply Kept.ck | apply Kept.bk | apply Kept.tm | apply Kept.wa | apply Kept.po | apply Kept.up | apply Kept.re | apply Kept.me | refine Kept.setCell ?_ (Or.inr (Nat.le_refl _)) _ | refine Kept.setCell ?_ (Or.inr (by omega)) _ | exact k1 | exact k2 | exact k3 | exact Kept.refl _ _)); done) | go_keep) (first | (go_at_call 93; refine (HC.out _ (by (repeat (with_reducible first | apply Kept.alloc | apply Kept.drewN | apply Kept.drew | apply Kept.nb | apply Kept.g | apply Kept.bs | apply Kept.ck | apply Kept.bk | apply Kept.tm | apply Kept.wa | apply Kept.po | apply Kept.up | apply Kept.re | apply Kept.me | refine Kept.setCell ?_ (Or.inr (Nat.le_refl _)) _ | refine Kept.setCell ?_ (Or.inr (by omega)) _ | exact k1 | exact k2 | exact k3 | exact Kept.refl _ _)))).mono ?_; rintro e w1 ⟨rfl, rfl⟩))
      all_goals
        go_wp2
        (first | go_end0 | refine bodyPost_ret (results_none rfl _ _ _) rfl ?_)
        exact ⟨rfl, HFIN.out _ (by (repeat (with_reducible first | apply Kept.alloc | apply Kept.drewN | apply Kept.drew | apply Kept.nb | apply Kept.g | apply Kept.bs | apply Kept.ck | apply Kept.bk | apply Kept.tm | apply Kept.wa | apply Kept.po | apply Kept.up | apply Kept.re | apply Kept.me | refine Kept.setCell ?_ (Or.inr (Nat.le_refl _)) _ | refine Kept.setCell ?_ (Or.inr (by omega)) _ | exact k1 | exact k2 | exact k3 | exact Kept.refl _ _)))⟩
    · obtain ⟨d, r, hdue, hle⟩ : ∃ d r, E.due = d :: r ∧ d.at_ ≤ E.now := by
        cases hE : E.due with
        | nil => exact absurd (Or.inl hE) hnone
        | cons d r =>
          refine ⟨d, r, rfl, ?_⟩
          rcases Int.lt_or_le E.now d.at_ with x | x
          · exact absurd (Or.inr ⟨d, r, hE, x⟩) hnone
          · exact x
      have hdr : DsOk r := by rw [hdue] at hdl; exact hdl.tail
      have HC : Hid (∀ W, Kept (fun _ => False) wr W → Calls Tryz.prog 93 #[.pointer (some ⟨l.ck, 1, none⟩), .int .i64 E.now] W fun e w' => e = .returned (.tuple #[whatV l' d.wt, .bool true]) ∧ XRep l' S { E with due := r } w' ∧ Kept l.own w w' ∧ (w'.cell? ⟨l.g, 10, none⟩ = some (.pointer (some ⟨l.ck, 0, none⟩)) ∧ w'.cell? ⟨l.ck, 0, none⟩ = some (.int .i64 E.now))) := fun W hW => by
        have hc := qTake_some (rl.kept hW (fun _ _ x => x)) E.now hdue hle hdl.len
        rw [e2] at hc
        refine hc.mono fun e w' ⟨h1, h2, h3⟩ => ?_
        have a1 := h2.c_ck
        have a2 := h2.c_now
        rw [e1, e2] at a1
        rw [e2] at a2
        have kW := kl.trans (hW.wide (fun _ x => x.elim))
        exact ⟨h1, h2, gl.kept kW.size kW h3, a1, a2⟩
      cases hwt : d.wt
      · have HTK : Hid (tk gj { S with flag := true } { E with next := E.now + S.period, due := putD r ⟨false, E.now + S.period⟩ } = some (T, F)) := by
          unfold tk at htk
          rw [hdue] at htk
          simp only [if_neg (show ¬ E.now < d.at_ by omega), hwt, Bool.false_eq_true, if_false] at htk
          exact htk
        rw [hwt] at HC
        have HC2 : Hid (∀ W, Kept (fun _ => False) wr W → Calls Tryz.prog 93 #[.pointer (some ⟨l.ck, 1, none⟩), .int .i64 E.now] W fun e w' => e = .returned (.tuple #[.iface 116 (.pointer (some ⟨l.tm, 0, none⟩)), .bool true]) ∧ XRep l' S { E with due := r } w' ∧ Kept l.own w w' ∧ (w'.cell? ⟨l.g, 10, none⟩ = some (.pointer (some ⟨l.ck, 0, none⟩)) ∧ w'.cell? ⟨l.ck, 0, none⟩ = some (.int .i64 E.now))) := fun W hW => by
          have h := HC.out W hW
          have e3 : whatV l' false = .iface 116 (.pointer (some ⟨l.tm, 0, none⟩)) := by rw [← gl.tm]; rfl
          rw [e3] at h
          exact h
        clear HC htk hnone hwt hle hdue
        go_wp2
        go_region_held3 (fun W => W.cell? ⟨l.g, 10, none⟩ = some (.pointer (some ⟨l.ck, 0, none⟩)) ∧ W.cell? ⟨l.ck, 0, none⟩ = some (.int .i64 E.now)) (first | assumption | (apply HS.out; (repeat (with_reducible first | apply Kept.alloc | apply Kept.drewN | apply Kept.drew | apply Kept.nb | apply Kept.g | apply Kept.bs | apply Kept.ck | apply Kept.bk | apply Kept.tm | apply Kept.wa | apply Kept.po | apply Kept.up | apply Kept.re | apply Kept.me | refine Kept.setCell ?_ (Or.inr (Nat.le_refl _)) _ | refine Kept.setCell ?_ (Or.inr (by omega)) _ | exact k1 | exact k2 | exact k3 | exact Kept.refl _ _)); done) | go_keep) (first | (go_at_call 93; refine (HC2.out _ (by (repeat (with_reducible first | apply Kept.alloc | apply Kept.drewN | apply Kept.drew | apply Kept.nb | apply Kept.g | apply Kept.bs | apply Kept.ck | apply Kept.bk | apply Kept.tm | apply Kept.wa | apply Kept.po | apply Kept.up | apply Kept.re | apply Kept.me | refine Kept.setCell ?_ (Or.inr (Nat.le_refl _)) _ | refine Kept.setCell ?_ (Or.inr (by omega)) _ | exact k1 | exact k2 | exact k3 | exact Kept.refl _ _)))).mono ?_; rintro e w1 ⟨rfl, rx, kx, hkeep⟩))
        all_goals
          have hring := tring_any rx hdr m0 m1 q0 q1
          rw [gl.tm] at hring
          have HRI : Hid _ := hring
          clear hring hkeep
          go_wp2_with fail
          refine Calls.mono HRI.out ?_
          rintro e w2 ⟨rfl, l2, g2', r2, k2'⟩
          have g2 : Grew l l2 w := gl.trans kx.size g2'
          have k2 : Kept l.own w w2 := gl.kept kx.size kx k2'
          clear g2' k2' HRI
          go_wp2
          go_roundg gj
          case measure => omega
          case rel => exact ⟨l2, _, _, HTK.out, g2, r2, k2, hdr.put _, m0, m1, q0, q1, hbl⟩
      · have HTK : Hid (tk gj (S.reset 2) { E with due := r } = some (T, F)) := by
          unfold tk at htk
          rw [hdue] at htk
          simp only [if_neg (show ¬ E.now < d.at_ by omega), hwt, if_true] at htk
          exact htk
        rw [hwt] at HC
        have HC2 : Hid (∀ W, Kept (fun _ => False) wr W → Calls Tryz.prog 93 #[.pointer (some ⟨l.ck, 1, none⟩), .int .i64 E.now] W fun e w' => e = .returned (.tuple #[.iface 119 (.pointer (some ⟨l.wa, 0, none⟩)), .bool true]) ∧ XRep l' S { E with due := r } w' ∧ Kept l.own w w' ∧ (w'.cell? ⟨l.g, 10, none⟩ = some (.pointer (some ⟨l.ck, 0, none⟩)) ∧ w'.cell? ⟨l.ck, 0, none⟩ = some (.int .i64 E.now))) := fun W hW => by
          have h := HC.out W hW
          have e3 : whatV l' true = .iface 119 (.pointer (some ⟨l.wa, 0, none⟩)) := by rw [← gl.wa]; rfl
          rw [e3] at h
          exact h
        obtain ⟨z1, z2, z3⟩ := reset_same S 2
        have zb := (reset_rst S 2).2.2
        have HQ : Hid (0 ≤ (S.reset 2).period ∧ (S.reset 2).period ≤ 255 ∧ ((S.reset 2).bank = 0 ∨ (S.reset 2).bank = 1)) := ⟨by rw [z1]; exact q0, by rw [z1]; exact q1, by rw [zb]; exact hbl⟩
        clear HC htk hnone hwt hle hdue z1 z2 z3 zb
        go_wp2
        go_region_held3 (fun W => W.cell? ⟨l.g, 10, none⟩ = some (.pointer (some ⟨l.ck, 0, none⟩)) ∧ W.cell? ⟨l.ck, 0, none⟩ = some (.int .i64 E.now)) (first | assumption | (apply HS.out; (repeat (with_reducible first | apply Kept.alloc | apply Kept.drewN | apply Kept.drew | apply Kept.nb | apply Kept.g | apply Kept.bs | apply Kept.ck | apply Kept.bk | apply Kept.tm | apply Kept.wa | apply Kept.po | apply Kept.up | apply Kept.re | apply Kept.me | refine Kept.setCell ?_ (Or.inr (Nat.le_refl _)) _ | refine Kept.setCell ?_ (Or.inr (by omega)) _ | exact k1 | exact k2 | exact k3 | exact Kept.refl _ _)); done) | go_keep) (first | (go_at_call 93; refine (HC2.out _ (by (repeat (with_reducible first | apply Kept.alloc | apply Kept.drewN | apply Kept.drew | apply Kept.nb | apply Kept.g | apply Kept.bs | apply Kept.ck | apply Kept.bk | apply Kept.tm | apply Kept.wa | apply Kept.po | apply Kept.up | apply Kept.re | apply Kept.me | refine Kept.setCell ?_ (Or.inr (Nat.le_refl _)) _ | refine Kept.setCell ?_ (Or.inr (by omega)) _ | exact k1 | exact k2 | exact k3 | exact Kept.refl _ _)))).mono ?_; rintro e w1 ⟨rfl, rx, kx, hkeep⟩))
        all_goals
          have hre := xreset_yes rx 2 (Or.inl rfl) hbl
          rw [gl.g] at hre
          have HRE : Hid _ := hre
          clear hre hkeep
          go_wp2_with fail
          refine Calls.mono HRE.out ?_
          rintro e w2 ⟨rfl, r2, k2'⟩
          have k2 : Kept l.own w w2 := gl.kept kx.size kx k2'
          clear k2' HRE
          go_wp2
          go_roundg gj
          case measure => omega
          case rel => exact ⟨l', _, _, HTK.out, gl, r2, k2, hdr, m0, m1, HQ.out.1, HQ.out.2.1, HQ.out.2.2⟩

end Go.Proofs.YtikdbpphbdbdnaaGreat

/- What is due, against counts that go down: one cycle for timer and watch, in plain mathematics. -/
namespace Go.Proofs.YtikdbpphbdbdnaaGreat
open Go.RowKit
set_option linter.unusedVariables false

theorem reset_alike (s : St) (op opd ph co ag inp rs c : Int) : Alike (s.reset c) (({ s with op := op, opd := opd, phase := ph, count := co, age := ag, inp := inp, rst := rs } : St).reset c) := by
  unfold Alike St.reset St.setStrikes St.strikes
  cases strikesB c
  · rfl
  · simp only [if_true]
    by_cases hb : s.bank = 0
    · simp [hb]
    · simp [hb]

theorem reset_alike' {s t : St} (h : Alike s t) (c : Int) : Alike (s.reset c) (t.reset c) := by
  have h2 := reset_alike s t.op t.opd t.phase t.count t.age t.inp t.rst c
  rw [← h] at h2
  exact h2

theorem tk_none (k : Nat) (S : St) (E : Ext) (h : E.due = [] ∨ ∃ d r, E.due = d :: r ∧ E.now < d.at_) : tk (k + 1) S E = some (S, E) := by
  unfold tk
  rcases h with h | ⟨d, r, h, h2⟩
  · rw [h]
  · rw [h]; simp only [if_pos h2]

theorem tk_watch (k : Nat) (S : St) (E : Ext) (t : Int) (r : List Du) (h : E.due = ⟨true, t⟩ :: r) (h2 : t ≤ E.now) : tk (k + 1) S E = tk k (S.reset 2) { E with due := r } := by
  rw [tk]
  rw [h]
  simp only [if_neg (show ¬ E.now < t by omega), if_true]

theorem tk_timer (k : Nat) (S : St) (E : Ext) (t : Int) (r : List Du) (h : E.due = ⟨false, t⟩ :: r) (h2 : t ≤ E.now) : tk (k + 1) S E = tk k { S with flag := true } { E with next := E.now + S.period, due := putD r ⟨false, E.now + S.period⟩ } := by
  rw [tk]
  rw [h]
  simp only [if_neg (show ¬ E.now < t by omega), Bool.false_eq_true, if_false]

theorem PhR.as {st st' : St} {ex ex' : Ext} (h : PhR st ex) (h1 : st'.phase = st.phase) (h2 : st'.op = st.op) (h3 : st'.opd = st.opd) (h4 : st'.x = st.x) (h5 : ex'.ph = ex.ph) (h6 : ex'.wait = ex.wait) (h7 : ex'.op = ex.op) (h8 : ex'.addr = ex.addr) : PhR st' ex' := by
  refine ⟨?_, ?_, ?_, ?_⟩
  · rw [h1, h5, h6]; exact h.p0
  · rw [h1, h5, h6, h7, h2]; exact h.p1
  · rw [h1, h5, h6, h7, h8, h2, h3]
    have : st'.target st.op st.opd = st.target st.op st.opd := by unfold St.target; rw [h4]
    rw [this]
    exact h.p2
  · rw [h1, h5, h6]; exact h.p3

theorem tick_pure {n : Nat} {S : St} {E : Ext} (hi : Inv S) (h : Rel n S E) (ha : S.age ≤ 250) :
    ∃ T F, tk 3 S { E with now := E.now + 1 } = some (T, F) ∧ Alike T S.ticks.ages ∧ (¬ 250 < S.age + 1 → Rel (n + 1) S.ticks.ages F) ∧ (250 < S.age + 1 → Clk (n + 1) S.ticks.ages F ∧ DsOk F.due) := by
  have hn0 := h.clk.n0
  have hn1 := h.clk.n1
  have hfd := h.clk.fd
  have hdue := h.due
  have hag := hi.age
  have hcn : ((n + 1 : Nat) : Int) = (n : Int) + 1 := by omega
  have resetClk : ∀ (t : St) (F : Ext), Clk (n + 1) t F → Clk (n + 1) (t.reset 2) F := fun t F hc => hc.as rfl rfl rfl (reset_same t 2).1 (reset_same t 2).2.1 (reset_same t 2).2.2
  by_cases hp : S.period = 0
  · have et : S.ticks = S := by unfold St.ticks; rw [if_neg (by omega)]
    have ed : E.due = [⟨true, E.fed + 251⟩] := by rw [hdue, hp]; rfl
    have hc0 := h.clk.p0 hp
    rw [et]
    by_cases hl : 250 < S.age + 1
    · have ea : S.ages = ({ S with age := S.age + 1 } : St).reset 2 := by unfold St.ages; rw [if_pos hl]
      refine ⟨S.reset 2, { E with now := E.now + 1, due := [] }, ?_, ?_, fun x => absurd hl x, fun _ => ⟨?_, Or.inl rfl⟩⟩
      · exact (tk_watch 2 S { E with now := E.now + 1 } (E.fed + 251) [] ed (by show E.fed + 251 ≤ E.now + 1; omega)).trans (tk_none 1 _ _ (Or.inl rfl))
      · rw [ea]; exact reset_alike _ _ _ _ _ _ _ _ 2
      · rw [ea]
        exact resetClk _ _ ⟨by show 0 ≤ E.now + 1; omega, by show E.now + 1 ≤ _; omega, fun x => absurd hp x, fun _ => hc0, by show E.fed = E.now + 1 - (S.age + 1); omega⟩
    · have ea : S.ages = { S with age := S.age + 1 } := by unfold St.ages; rw [if_neg hl]
      refine ⟨S, { E with now := E.now + 1 }, tk_none 2 _ _ (Or.inr ⟨_, _, ed, by show E.now + 1 < E.fed + 251; omega⟩), ?_, fun _ => ?_, fun x => absurd x hl⟩
      · rw [ea]; rfl
      · rw [ea]
        exact ⟨⟨by show 0 ≤ E.now + 1; omega, by show E.now + 1 ≤ _; omega, fun x => absurd hp x, fun _ => hc0, by show E.fed = E.now + 1 - (S.age + 1); omega⟩, hdue, h.ph.as rfl rfl rfl rfl rfl rfl rfl rfl, h.early⟩
  · have hper := hi.period
    have hcnt := hi.cnt (by omega)
    have hnx := h.clk.nx hp
    have hP : 0 < S.period := by omega
    by_cases hc : S.count - 1 = 0
    · have et : S.ticks = { S with count := S.period, flag := true } := by unfold St.ticks; rw [if_pos hP, if_pos hc]
      have ed : E.due = [⟨false, E.next⟩, ⟨true, E.fed + 251⟩] := by rw [hdue]; unfold canon; rw [if_neg hp, if_pos (by omega)]
      have e1 : tk 3 S { E with now := E.now + 1 } = tk 2 { S with flag := true } { E with now := E.now + 1, next := E.now + 1 + S.period, due := canon S.period (E.now + 1 + S.period) (E.fed + 251) } := by
        refine (tk_timer 2 S { E with now := E.now + 1 } E.next [⟨true, E.fed + 251⟩] ed (by show E.next ≤ E.now + 1; omega)).trans ?_
        show tk 2 _ { E with now := E.now + 1, next := E.now + 1 + S.period, due := putD [⟨true, E.fed + 251⟩] ⟨false, E.now + 1 + S.period⟩ } = _
        rw [put_timer _ _ S.period hp]
      rw [et, e1]
      by_cases hl : 250 < S.age + 1
      · have ea : ({ S with count := S.period, flag := true } : St).ages = ({ S with count := S.period, flag := true, age := S.age + 1 } : St).reset 2 := by unfold St.ages; rw [if_pos hl]
        have ed2 : canon S.period (E.now + 1 + S.period) (E.fed + 251) = [⟨true, E.fed + 251⟩, ⟨false, E.now + 1 + S.period⟩] := by unfold canon; rw [if_neg hp, if_neg (by omega)]
        refine ⟨({ S with flag := true } : St).reset 2, { E with now := E.now + 1, next := E.now + 1 + S.period, due := [⟨false, E.now + 1 + S.period⟩] }, ?_, ?_, fun x => absurd hl x, fun _ => ⟨?_, Or.inr (Or.inl ⟨_, rfl⟩)⟩⟩
        · refine (tk_watch 1 { S with flag := true } { E with now := E.now + 1, next := E.now + 1 + S.period, due := canon S.period (E.now + 1 + S.period) (E.fed + 251) } (E.fed + 251) [⟨false, E.now + 1 + S.period⟩] ed2 (by show E.fed + 251 ≤ E.now + 1; omega)).trans ?_
          exact tk_none 0 _ _ (Or.inr ⟨_, _, rfl, by show E.now + 1 < E.now + 1 + S.period; omega⟩)
        · rw [ea]; exact reset_alike _ _ _ _ _ _ _ _ 2
        · rw [ea]
          exact resetClk _ _ ⟨by show 0 ≤ E.now + 1; omega, by show E.now + 1 ≤ _; omega, fun _ => rfl, fun x => absurd x hp, by show E.fed = E.now + 1 - (S.age + 1); omega⟩
      · have ea : ({ S with count := S.period, flag := true } : St).ages = { S with count := S.period, flag := true, age := S.age + 1 } := by unfold St.ages; rw [if_neg hl]
        refine ⟨{ S with flag := true }, { E with now := E.now + 1, next := E.now + 1 + S.period, due := canon S.period (E.now + 1 + S.period) (E.fed + 251) }, ?_, ?_, fun _ => ?_, fun x => absurd x hl⟩
        · refine tk_none 1 _ _ (Or.inr ?_)
          show ∃ d r, canon S.period (E.now + 1 + S.period) (E.fed + 251) = d :: r ∧ E.now + 1 < d.at_
          unfold canon
          rw [if_neg hp]
          by_cases hx : E.now + 1 + S.period ≤ E.fed + 251
          · rw [if_pos hx]; exact ⟨_, _, rfl, by show E.now + 1 < E.now + 1 + S.period; omega⟩
          · rw [if_neg hx]; exact ⟨_, _, rfl, by show E.now + 1 < E.fed + 251; omega⟩
        · rw [ea]; rfl
        · rw [ea]
          exact ⟨⟨by show 0 ≤ E.now + 1; omega, by show E.now + 1 ≤ _; omega, fun _ => rfl, fun x => absurd x hp, by show E.fed = E.now + 1 - (S.age + 1); omega⟩, rfl, h.ph.as rfl rfl rfl rfl rfl rfl rfl rfl, h.early⟩
    · have et : S.ticks = { S with count := S.count - 1 } := by unfold St.ticks; rw [if_pos hP, if_neg hc]
      rw [et]
      by_cases hl : 250 < S.age + 1
      · have ea : ({ S with count := S.count - 1 } : St).ages = ({ S with count := S.count - 1, age := S.age + 1 } : St).reset 2 := by unfold St.ages; rw [if_pos hl]
        have ed : E.due = [⟨true, E.fed + 251⟩, ⟨false, E.next⟩] := by rw [hdue]; unfold canon; rw [if_neg hp, if_neg (by omega)]
        refine ⟨S.reset 2, { E with now := E.now + 1, due := [⟨false, E.next⟩] }, ?_, ?_, fun x => absurd hl x, fun _ => ⟨?_, Or.inr (Or.inl ⟨_, rfl⟩)⟩⟩
        · refine (tk_watch 2 S { E with now := E.now + 1 } (E.fed + 251) [⟨false, E.next⟩] ed (by show E.fed + 251 ≤ E.now + 1; omega)).trans ?_
          exact tk_none 1 _ _ (Or.inr ⟨_, _, rfl, by show E.now + 1 < E.next; omega⟩)
        · rw [ea]; exact reset_alike _ _ _ _ _ _ _ _ 2
        · rw [ea]
          exact resetClk _ _ ⟨by show 0 ≤ E.now + 1; omega, by show E.now + 1 ≤ _; omega, fun _ => by show E.next = E.now + 1 + (S.count - 1); omega, fun x => absurd x hp, by show E.fed = E.now + 1 - (S.age + 1); omega⟩
      · have ea : ({ S with count := S.count - 1 } : St).ages = { S with count := S.count - 1, age := S.age + 1 } := by unfold St.ages; rw [if_neg hl]
        refine ⟨S, { E with now := E.now + 1 }, ?_, ?_, fun _ => ?_, fun x => absurd x hl⟩
        · refine tk_none 2 _ _ (Or.inr ?_)
          show ∃ d r, E.due = d :: r ∧ E.now + 1 < d.at_
          rw [hdue]
          unfold canon
          rw [if_neg hp]
          by_cases hx : E.next ≤ E.fed + 251
          · rw [if_pos hx]; exact ⟨_, _, rfl, by show E.now + 1 < E.next; omega⟩
          · rw [if_neg hx]; exact ⟨_, _, rfl, by show E.now + 1 < E.fed + 251; omega⟩
        · rw [ea]; rfl
        · rw [ea]
          exact ⟨⟨by show 0 ≤ E.now + 1; omega, by show E.now + 1 ≤ _; omega, fun _ => by show E.next = E.now + 1 + (S.count - 1); omega, fun x => absurd x hp, by show E.fed = E.now + 1 - (S.age + 1); omega⟩, hdue, h.ph.as rfl rfl rfl rfl rfl rfl rfl rfl, h.early⟩

end Go.Proofs.YtikdbpphbdbdnaaGreat

/- The program's board: the processor has its cycle, then timer and watch. -/
namespace Go.Proofs.YtikdbpphbdbdnaaGreat
open Go.RowKit
set_option linter.unusedVariables false

/-- What holds of what stands beside, between two cycles. -/
structure XOk (n : Nat) (st : St) (ex : Ext) : Prop where
  clk : Clk n st ex
  dso : DsOk ex.due
  run : st.left = 0 → 0 ≤ st.bank → Rel n st ex

theorem Clk.more {n m : Nat} {st : St} {ex : Ext} (h : Clk n st ex) (hm : n ≤ m) : Clk m st ex := ⟨h.n0, by have := h.n1; omega, h.nx, h.p0, h.fd⟩
theorem Rel.more {n m : Nat} {st : St} {ex : Ext} (h : Rel n st ex) (hm : n ≤ m) : Rel m st ex := ⟨h.clk.more hm, h.due, h.ph, h.early⟩
theorem XOk.more {n m : Nat} {st : St} {ex : Ext} (h : XOk n st ex) (hm : n ≤ m) : XOk m st ex := ⟨h.clk.more hm, h.dso, fun a b => (h.run a b).more hm⟩

/-- A reset leaves what stands beside. -/
theorem XOk.reset {n : Nat} {st : St} {ex : Ext} (hc : Clk n st ex) (hd : DsOk ex.due) (c : Int) : XOk n (st.reset c) ex :=
  ⟨hc.as rfl rfl rfl (reset_same st c).1 (reset_same st c).2.1 (reset_same st c).2.2, hd, fun a => absurd ((reset_rst st c).2.1.symm.trans a) (by decide)⟩

theorem xtick_any {n : Nat} (hn : n < 4611686018427387903) {l : XL} {st : St} {ex : Ext} {w : World} (hr : XRep l st ex w) (hi : Inv st) (h : Rel n st ex) (hb : st.bank = 0 ∨ st.bank = 1) (hl : st.left = 0) :
    Calls Tryz.prog 79 #[.pointer (some ⟨l.g, 0, none⟩)] w fun e w' => e = .returned (.tuple #[]) ∧ ∃ F, Went l st.ticks.ages F w w' ∧ XOk (n + 1) st.ticks.ages F := by
  obtain ⟨T, F, htk, hal, h1, h2⟩ := tick_pure hi h (hi.aged hl)
  have hn1 := h.clk.n1
  refine (xtick_walk hr h.ok h.clk.n0 (by omega) hi.period.1 hi.period.2 hb 3 T F htk).mono fun e w' ⟨he, hw⟩ => ⟨he, F, hw.alike hal, ?_⟩
  by_cases hlate : 250 < st.age + 1
  · obtain ⟨q1, q2⟩ := h2 hlate
    refine ⟨q1, q2, fun a => ?_⟩
    have ea : st.ticks.ages = ({ st.ticks with age := st.ticks.age + 1 } : St).reset 2 := by
      unfold St.ages
      rw [(ticks_other st).2.2, if_pos hlate]
    rw [ea, (reset_rst _ 2).2.1] at a
    exact absurd a (by decide)
  · have q := h1 hlate
    exact ⟨q.clk, q.ok, fun _ _ => q⟩

theorem zCycle_norm {n : Nat} {l : XL} {st : St} {w w' : World} {e : Ending} (h : CyR n l st w e w') (h0 : st.works.1.rst = 0) : e = .returned (cyc st.works.2) ∧ ∃ E, Went l st.works.1 E w w' ∧ Rel n st.works.1 E := by
  rcases h with ⟨E, h1, _, h3, h4⟩ | ⟨S, E, _, h2, _⟩ | ⟨S, E, _, h2, _⟩
  · exact ⟨h1, E, h3, h4⟩
  · rw [h2, (reset_rst S 3).1] at h0; exact absurd h0 (by decide)
  · rw [h2, (reset_rst S 4).1] at h0; exact absurd h0 (by decide)

theorem zCycle_soon {n : Nat} {l : XL} {st : St} {w w' : World} {e : Ending} (h : CyR n l st w e w') (h0 : st.works.1.rst = 3) : e = .returned (cyc st.works.2) ∧ ∃ S E, st.works.1 = S.reset 3 ∧ Went l S E w w' ∧ E.early = true ∧ S.bank = st.bank ∧ Clk n S E ∧ DsOk E.due := by
  rcases h with ⟨E, h1, h2, h3, h4⟩ | ⟨S, E, h1, h2, h3, h4, h5, h6, h7⟩ | ⟨S, E, _, h2, _⟩
  · rw [h2] at h0; exact absurd h0 (by decide)
  · exact ⟨h1, S, E, h2, h3, h4, h5, h6, h7⟩
  · rw [h2, (reset_rst S 4).1] at h0; exact absurd h0 (by decide)

theorem zCycle_falls {n : Nat} {l : XL} {st : St} {w w' : World} {e : Ending} (h : CyR n l st w e w') (h0 : ¬ st.works.1.rst = 0) (h3 : ¬ st.works.1.rst = 3) : e = .panicked [{ v := .iface 150 (cyc st.works.2), recovered := false }] ∧ ∃ S E, st.works.1 = S.reset 4 ∧ Went l S E w w' ∧ S.bank = st.bank ∧ Clk n S E ∧ DsOk E.due := by
  rcases h with ⟨E, h1, h2, _, h4⟩ | ⟨S, E, h1, h2, _⟩ | ⟨S, E, h1, h2, q3, h5, h6, h7⟩
  · exact absurd h2 h0
  · rw [h2, (reset_rst S 3).1] at h3; exact absurd rfl h3
  · exact ⟨h1, S, E, h2, q3, h5, h6, h7⟩

/-- The worlds in which the processor's cycle may be asked for. -/
theorem run_world (w : World) (b : Nat) (p : Value) : ((w.setCell ⟨b, 1, none⟩ p).alloc zc).heap[w.heap.size]? = some zc := by
  have e := heap_at (w.setCell ⟨b, 1, none⟩ p) zc
  have e2 : (w.setCell ⟨b, 1, none⟩ p).heap.size = w.heap.size := by simp [World.setCell]
  rw [e2] at e
  exact e

theorem run_world2 (w : World) (b : Nat) (p : Value) : (((w.setCell ⟨b, 1, none⟩ p).alloc zc).alloc zc).heap[w.heap.size]? = some zc ∧ (((w.setCell ⟨b, 1, none⟩ p).alloc zc).alloc zc).heap[w.heap.size + 1]? = some zc := by
  have e2 : ((w.setCell ⟨b, 1, none⟩ p).alloc zc).heap.size = w.heap.size + 1 := by rw [World.size_alloc]; simp [World.setCell]
  constructor
  · rw [Below.heap_alloc _ _ _ (by rw [e2]; omega)]
    exact run_world w b p
  · have e := heap_at ((w.setCell ⟨b, 1, none⟩ p).alloc zc) zc
    rw [e2] at e
    exact e

/-- What a callee that went leaves of a block that is none of the board's. -/
theorem Went.blk {l : XL} {st st0 : St} {ex ex0 : Ext} {w W w1 : World} {b : Nat} (hr : XRep l st0 ex0 w) (hb : w.heap.size ≤ b) (hh : W.heap[b]? = some zc) (h : Went l st ex W w1) :
    w1.heap[b]? = some zc := by
  obtain ⟨l', g, r, k⟩ := h
  have hlt := (Array.getElem?_eq_some_iff.1 hh).1
  exact (k.block b hlt (hr.fresh _ hb)).trans hh

end Go.Proofs.YtikdbpphbdbdnaaGreat
