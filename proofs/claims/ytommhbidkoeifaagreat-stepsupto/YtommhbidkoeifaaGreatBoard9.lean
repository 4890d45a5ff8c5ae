/- The program's board: a step, case by case: the boot, a dead board, the processor's cycle. -/
import Derived.Test.YtommhbidkoeifaaGreatBoard8
namespace Go.Proofs.YtommhbidkoeifaaGreat
open Go.RowKit
set_option linter.unusedVariables false
set_option linter.unusedSimpArgs false

theorem boot_alike' (s : St) (op opd ph co ag inp rs : Int) : Alike (bootS s) (({ s with op := op, opd := opd, phase := ph, count := co, age := ag, inp := inp, rst := rs } : St).boot) := by
  unfold Alike bootS chooseS St.boot leftS
  cases h : anewB (bankS s.b0) (bankS s.b1) s.s0 s.s1
  · simp [h]
  · simp [h]

theorem boot_alike {s t : St} (h : Alike s t) : Alike (bootS s) t.boot := by
  have h2 := boot_alike' s t.op t.opd t.phase t.count t.age t.inp t.rst
  rw [← h] at h2
  exact h2

theorem alike_left {s t : St} (h : Alike s t) (n : Int) : Alike ({ s with left := n } : St) ({ t with left := n } : St) := by
  unfold Alike at h ⊢
  rw [h]

set_option maxRecDepth 100000 in
set_option maxHeartbeats 2000000 in
theorem xStep_boot {n : Nat} (hn : n < 4611686018427387903) {l : XL} {st : St} {ex : Ext} {w : World} (hr : XRep l st ex w) (hi : Inv st) (h : XOk n st ex) (rs : Bool) (v p : Int) (hp0 : 0 ≤ p) (hp1 : p ≤ 255) (hdn : (st.supply ⟨rs, v, p⟩).down = false) (hrs : rs = false) (hl : st.left = 1) :
    Calls Tryz.prog 53 #[.pointer (some ⟨l.g, 0, none⟩), .agg #[.bool rs, .int .i64 v, .int .u8 p]] w fun e w' => e = .returned (.agg #[.int .i64 (st.step ⟨rs, v, p⟩).2.kind, .int .i64 (st.step ⟨rs, v, p⟩).2.addr, .int .u8 (st.step ⟨rs, v, p⟩).2.data, .int .u8 (st.step ⟨rs, v, p⟩).2.out]) ∧ ∃ E, Went l (st.step ⟨rs, v, p⟩).1 E w w' ∧ XOk (n + 1) (st.step ⟨rs, v, p⟩).1 E := by
  have sup := supply_same st ⟨rs, v, p⟩
  have ES : Hid (st.step ⟨rs, v, p⟩ = (({ st.supply ⟨rs, v, p⟩ with left := 0 } : St).boot, ⟨0, 0, 0, 0⟩)) := by
    unfold Hid St.step
    rw [if_neg (by rw [hdn]; decide), if_neg (by show ¬ rs = true; rw [hrs]; decide), if_pos (by rw [sup.2.2.2.1]; omega), if_pos (by rw [sup.2.2.2.1]; omega), sup.2.2.2.1, hl]
    rfl
  have hfr := hr.fresh
  have hmf : ∀ (fn : Fn) (first cap : Array Value) (w : World), (Instr.makeFunc fn first cap).run Tryz.prog w = .ok (.func fn first cap) w := fun _ _ _ _ => rfl
  obtain ⟨sa, sd, sl, sb⟩ := sense_supply st rs v p
  have hn1 := h.clk.n1
  have HZ : Hid (XOk (n + 1) ({ st.supply ⟨rs, v, p⟩ with left := 0 } : St).boot (bootX ex)) := by
    have q := boot_rel (n := n) (st := ({ st.supply ⟨rs, v, p⟩ with left := 0 } : St)) h.clk.n0 h.clk.n1
    exact XOk.more ⟨q.clk, q.ok, fun _ _ => q⟩ (Nat.le_succ n)
  rw [ES.out]
  have HD : Hid _ := sd.trans hdn
  have hl' : (senseS st v).left = 1 := by rw [sl]; exact hl
  have hbk : (senseS st v).b0 = st.b0 ∧ (senseS st v).b1 = st.b1 := by unfold senseS; split; exact ⟨rfl, rfl⟩; split; exact ⟨rfl, rfl⟩; exact ⟨rfl, rfl⟩
  have HW : Hid (∀ w, XRep l (senseS st v) ex w → Calls Tryz.prog 62 #[.pointer (some ⟨l.g, 0, none⟩)] w fun e w' => e = .returned (.tuple #[]) ∧ Went l (bootS { senseS st v with left := 0 }) (bootX ex) w w') := fun w hw => xwait_boot hw h.dso h.clk.n0 (by omega) (by rw [hbk.1]; exact hi.b0) (by rw [hbk.2]; exact hi.b1) hl'
  have HL : Hid _ := hl'
  subst hrs
  have SA : Hid _ := sa
  clear sd sl sb sa hdn ES sup hl hbk hl'
  go_enter_defers Tryz.func53, Tryz.ntmps53
  go_wp2_with fail
  refine (xsense_any (((hr.alloc _).alloc _).alloc _) v).mono ?_
  rintro e w1 ⟨rfl, r1, k1⟩
  have V1 : Vars w w1 l.g false v p := (Vars.start w l.g false v p).kept k1 (hfr _ (Nat.le_refl _)) (hfr _ (by omega)) (hfr _ (by omega))
  have K1 : Kept l.own w w1 := ((((Kept.refl _ w).alloc _).alloc _).alloc _).trans k1
  clear k1
  have vb := V1.b
  have vi0 := V1.i0
  have vi1 := V1.i1
  have vi2 := V1.i2
  have cd := r1.c_down
  have hgl := r1.g_q
  have e1 : (senseS st v).down = false := HD.out
  rw [e1] at cd
  have cl := r1.c_left
  have e2 : (senseS st v).left = 1 := HL.out
  rw [e2] at cl
  clear e1 e2
  go_wp2_with fail
  refine (HW.out _ r1).mono ?_
  rintro e w2 ⟨rfl, l2, g2, r2, k2'⟩
  have V2 := V1.kept k2' (hfr _ (Nat.le_refl _)) (hfr _ (by omega)) (hfr _ (by omega))
  have K9 : Kept l.own w w2 := K1.trans k2'
  have G9 : Grew l l2 w := g2.later K1.size
  have hlt := V1.s.2.2
  have r9 : XRep l2 (({ st.supply ⟨false, v, p⟩ with left := 0 } : St).boot) (bootX ex) w2 := r2.alike (boot_alike (alike_left SA.out 0))
  have hno : ¬ l2.own (w.heap.size + 1 + 1) := g2.out hr (by omega) hlt
  obtain ⟨⟨z0, z1, z2, z3⟩, ⟨y0, y1, y2, y3⟩, hz⟩ := V2.s
  clear k2' V1 V2 K1 r1 r2 g2
  go_wp2
  refine leaves_cons (f := 58) (args := #[.pointer (some ⟨w.heap.size, 0, none⟩), .pointer (some ⟨w.heap.size + 1 + 1, 0, none⟩)]) (by simp) (by simp [go_sem]) ?_
  refine (catch_idle _ _ _).mono ?_
  rintro e u' w9 ⟨rfl, rfl, rfl⟩
  refine ⟨.agg #[.int .i64 0, .int .i64 0, .int .u8 0, .int .u8 0], by simp [results, Tryz.results53, go_sem, z0, z1, z2, z3], rfl, bootX ex, ⟨l2, G9, ?r, ?k⟩, HZ.out⟩
  case r => repeat (with_reducible first | refine XRep.other ?_ hno _ | exact r9)
  case k =>
    have k2 := K9
    (repeat (with_reducible first | apply Kept.alloc | apply Kept.drewN | apply Kept.drew | apply Kept.nb | apply Kept.g | apply Kept.bs | apply Kept.ck | apply Kept.bk | apply Kept.tm | apply Kept.wa | apply Kept.po | apply Kept.up | apply Kept.re | apply Kept.me | refine Kept.setCell ?_ (Or.inr (Nat.le_refl _)) _ | refine Kept.setCell ?_ (Or.inr (by omega)) _ | exact k1 | exact k2 | exact k3 | exact Kept.refl _ _))

set_option maxRecDepth 100000 in
set_option maxHeartbeats 2000000 in
theorem xStep_dead {n : Nat} (hn : n < 4611686018427387903) {l : XL} {st : St} {ex : Ext} {w : World} (hr : XRep l st ex w) (hi : Inv st) (h : XOk n st ex) (rs : Bool) (v p : Int) (hp0 : 0 ≤ p) (hp1 : p ≤ 255) (hdn : (st.supply ⟨rs, v, p⟩).down = false) (hrs : rs = false) (hl : st.left = 0) (hbk : st.bank = -1) :
    Calls Tryz.prog 53 #[.pointer (some ⟨l.g, 0, none⟩), .agg #[.bool rs, .int .i64 v, .int .u8 p]] w fun e w' => e = .returned (.agg #[.int .i64 (st.step ⟨rs, v, p⟩).2.kind, .int .i64 (st.step ⟨rs, v, p⟩).2.addr, .int .u8 (st.step ⟨rs, v, p⟩).2.data, .int .u8 (st.step ⟨rs, v, p⟩).2.out]) ∧ ∃ E, Went l (st.step ⟨rs, v, p⟩).1 E w w' ∧ XOk (n + 1) (st.step ⟨rs, v, p⟩).1 E := by
  have sup := supply_same st ⟨rs, v, p⟩
  have ES : Hid (st.step ⟨rs, v, p⟩ = (st.supply ⟨rs, v, p⟩, ⟨1, 0, 0, 0⟩)) := by
    unfold Hid St.step
    rw [if_neg (by rw [hdn]; decide), if_neg (by show ¬ rs = true; rw [hrs]; decide), if_neg (by rw [sup.2.2.2.1]; omega), if_pos (by rw [sup.2.2.2.2.1]; omega)]
  have hfr := hr.fresh
  have hmf : ∀ (fn : Fn) (first cap : Array Value) (w : World), (Instr.makeFunc fn first cap).run Tryz.prog w = .ok (.func fn first cap) w := fun _ _ _ _ => rfl
  obtain ⟨sa, sd, sl, sb⟩ := sense_supply st rs v p
  have HZ : Hid (XOk (n + 1) (st.supply ⟨rs, v, p⟩) ex) := (h.supply ⟨rs, v, p⟩).more (Nat.le_succ n)
  rw [ES.out]
  have HD : Hid _ := sd.trans hdn
  have HL : Hid _ := sl.trans hl
  have HB : Hid _ := sb.trans hbk
  subst hrs
  have SA : Hid _ := sa
  clear sd sl sb sa hdn ES sup hl hbk
  go_enter_defers Tryz.func53, Tryz.ntmps53
  go_wp2_with fail
  refine (xsense_any (((hr.alloc _).alloc _).alloc _) v).mono ?_
  rintro e w1 ⟨rfl, r1, k1⟩
  have V1 : Vars w w1 l.g false v p := (Vars.start w l.g false v p).kept k1 (hfr _ (Nat.le_refl _)) (hfr _ (by omega)) (hfr _ (by omega))
  have K1 : Kept l.own w w1 := ((((Kept.refl _ w).alloc _).alloc _).alloc _).trans k1
  clear k1
  have vb := V1.b
  have vi0 := V1.i0
  have vi1 := V1.i1
  have vi2 := V1.i2
  have cd := r1.c_down
  have hgl := r1.g_q
  have e1 : (senseS st v).down = false := HD.out
  rw [e1] at cd
  have cl := r1.c_left
  have e2 : (senseS st v).left = 0 := HL.out
  rw [e2] at cl
  have cb := r1.c_bank
  have e3 : (senseS st v).bank = -1 := HB.out
  rw [e3] at cb
  have cbk := r1.c_bk
  clear e1 e2 e3
  have K9 := K1
  have r9 : XRep l (st.supply ⟨false, v, p⟩) ex w1 := r1.alike SA.out
  have hno : ¬ l.own (w.heap.size + 1 + 1) := hfr _ (by omega)
  obtain ⟨⟨z0, z1, z2, z3⟩, ⟨y0, y1, y2, y3⟩, hz⟩ := V1.s
  clear V1 K1 r1
  go_wp2
  refine leaves_cons (f := 58) (args := #[.pointer (some ⟨w.heap.size, 0, none⟩), .pointer (some ⟨w.heap.size + 1 + 1, 0, none⟩)]) (by simp) (by simp [go_sem]) ?_
  refine (catch_idle _ _ _).mono ?_
  rintro e u' w9 ⟨rfl, rfl, rfl⟩
  refine ⟨.agg #[.int .i64 1, .int .i64 0, .int .u8 0, .int .u8 0], by simp [results, Tryz.results53, go_sem, z0, z1, z2, z3], rfl, ex, ⟨l, Grew.refl l w, ?r, ?k⟩, HZ.out⟩
  case r => repeat (with_reducible first | refine XRep.other ?_ hno _ | exact r9)
  case k =>
    have k2 := K9
    (repeat (with_reducible first | apply Kept.alloc | apply Kept.drewN | apply Kept.drew | apply Kept.nb | apply Kept.g | apply Kept.bs | apply Kept.ck | apply Kept.bk | apply Kept.tm | apply Kept.wa | apply Kept.po | apply Kept.up | apply Kept.re | apply Kept.me | refine Kept.setCell ?_ (Or.inr (Nat.le_refl _)) _ | refine Kept.setCell ?_ (Or.inr (by omega)) _ | exact k1 | exact k2 | exact k3 | exact Kept.refl _ _))

end Go.Proofs.YtommhbidkoeifaaGreat
