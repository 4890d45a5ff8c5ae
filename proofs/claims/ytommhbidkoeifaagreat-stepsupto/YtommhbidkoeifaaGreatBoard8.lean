/- The program's board: a step, case by case. -/
import Derived.Test.YtommhbidkoeifaaGreatBoard7
namespace Go.Proofs.YtommhbidkoeifaaGreat
open Go.RowKit
set_option linter.unusedVariables false

theorem Grew.out {l l' : XL} {w W : World} (g : Grew l l' W) {st : St} {ex : Ext} (hr : XRep l st ex w) {b : Nat} (hb : w.heap.size ≤ b) (hW : b < W.heap.size) : ¬ l'.own b := fun x => by
  rcases g.own x with y | y
  · exact hr.fresh _ hb y
  · omega

set_option maxRecDepth 100000 in
set_option maxHeartbeats 2000000 in
theorem xStep_down {n : Nat} (hn : n < 4611686018427387903) {l : XL} {st : St} {ex : Ext} {w : World} (hr : XRep l st ex w) (hi : Inv st) (h : XOk n st ex) (rs : Bool) (v p : Int) (hp0 : 0 ≤ p) (hp1 : p ≤ 255) (hdn : (st.supply ⟨rs, v, p⟩).down = true) :
    Calls Tryz.prog 53 #[.pointer (some ⟨l.g, 0, none⟩), .agg #[.bool rs, .int .i64 v, .int .u8 p]] w fun e w' => e = .returned (.agg #[.int .i64 (st.step ⟨rs, v, p⟩).2.kind, .int .i64 (st.step ⟨rs, v, p⟩).2.addr, .int .u8 (st.step ⟨rs, v, p⟩).2.data, .int .u8 (st.step ⟨rs, v, p⟩).2.out]) ∧ ∃ E, Went l (st.step ⟨rs, v, p⟩).1 E w w' ∧ XOk (n + 1) (st.step ⟨rs, v, p⟩).1 E := by
  have ES : Hid (st.step ⟨rs, v, p⟩ = ((st.supply ⟨rs, v, p⟩).reset 6, ⟨0, 0, 0, 0⟩)) := by unfold Hid St.step; rw [if_pos hdn]
  have hfr := hr.fresh
  have hmf : ∀ (fn : Fn) (first cap : Array Value) (w : World), (Instr.makeFunc fn first cap).run Tryz.prog w = .ok (.func fn first cap) w := fun _ _ _ _ => rfl
  obtain ⟨sa, sd, sl, sb⟩ := sense_supply st rs v p
  have hz := (h.supply ⟨rs, v, p⟩).more (Nat.le_succ n)
  have HZ : Hid (XOk (n + 1) ((st.supply ⟨rs, v, p⟩).reset 6) ex) := XOk.reset hz.clk hz.dso 6
  rw [ES.out]
  have HD : Hid _ := sd.trans hdn
  have SA : Hid _ := sa
  clear sd sl sb sa hdn hz ES
  go_enter_defers Tryz.func53, Tryz.ntmps53
  go_wp2_with fail
  refine (xsense_any (((hr.alloc _).alloc _).alloc _) v).mono ?_
  rintro e w1 ⟨rfl, r1, k1⟩
  have V1 : Vars w w1 l.g rs v p := (Vars.start w l.g rs v p).kept k1 (hfr _ (Nat.le_refl _)) (hfr _ (by omega)) (hfr _ (by omega))
  have K1 : Kept l.own w w1 := ((((Kept.refl _ w).alloc _).alloc _).alloc _).trans k1
  clear k1
  have vb := V1.b
  have vi0 := V1.i0
  have vi1 := V1.i1
  have vi2 := V1.i2
  have cd := r1.c_down
  have hgl := r1.g_q
  have e1 : (senseS st v).down = true := HD.out
  rw [e1] at cd
  clear e1
  go_wp2_with fail
  refine (xreset_no r1 6 rfl).mono ?_
  rintro e w2 ⟨rfl, r2, k2'⟩
  have V2 := V1.kept k2' (hfr _ (Nat.le_refl _)) (hfr _ (by omega)) (hfr _ (by omega))
  have K9 : Kept l.own w w2 := K1.trans k2'
  have r9 : XRep l ((st.supply ⟨rs, v, p⟩).reset 6) ex w2 := r2.alike (reset_alike' SA.out 6)
  have hno : ¬ l.own (w.heap.size + 1 + 1) := hfr _ (by omega)
  obtain ⟨⟨z0, z1, z2, z3⟩, ⟨y0, y1, y2, y3⟩, hz⟩ := V2.s
  clear k2' V1 V2 K1 r1 r2
  go_wp2
  refine leaves_cons (f := 58) (args := #[.pointer (some ⟨w.heap.size, 0, none⟩), .pointer (some ⟨w.heap.size + 1 + 1, 0, none⟩)]) (by simp) (by simp [go_sem]) ?_
  refine (catch_idle _ _ _).mono ?_
  rintro e u' w9 ⟨rfl, rfl, rfl⟩
  refine ⟨.agg #[.int .i64 0, .int .i64 0, .int .u8 0, .int .u8 0], by simp [results, Tryz.results53, go_sem, z0, z1, z2, z3], rfl, ex, ⟨l, Grew.refl l w, ?r, ?k⟩, HZ.out⟩
  case r => repeat (with_reducible first | refine XRep.other ?_ hno _ | exact r9)
  case k =>
    have k2 := K9
    (repeat (with_reducible first | apply Kept.alloc | apply Kept.drewN | apply Kept.drew | apply Kept.nb | apply Kept.g | apply Kept.bs | apply Kept.ck | apply Kept.bk | apply Kept.tm | apply Kept.wa | apply Kept.po | apply Kept.up | apply Kept.re | apply Kept.me | refine Kept.setCell ?_ (Or.inr (Nat.le_refl _)) _ | refine Kept.setCell ?_ (Or.inr (by omega)) _ | exact k1 | exact k2 | exact k3 | exact Kept.refl _ _))

set_option maxRecDepth 100000 in
set_option maxHeartbeats 2000000 in
theorem xStep_pin {n : Nat} (hn : n < 4611686018427387903) {l : XL} {st : St} {ex : Ext} {w : World} (hr : XRep l st ex w) (hi : Inv st) (h : XOk n st ex) (rs : Bool) (v p : Int) (hp0 : 0 ≤ p) (hp1 : p ≤ 255) (hdn : (st.supply ⟨rs, v, p⟩).down = false) (hrs : rs = true) :
    Calls Tryz.prog 53 #[.pointer (some ⟨l.g, 0, none⟩), .agg #[.bool rs, .int .i64 v, .int .u8 p]] w fun e w' => e = .returned (.agg #[.int .i64 (st.step ⟨rs, v, p⟩).2.kind, .int .i64 (st.step ⟨rs, v, p⟩).2.addr, .int .u8 (st.step ⟨rs, v, p⟩).2.data, .int .u8 (st.step ⟨rs, v, p⟩).2.out]) ∧ ∃ E, Went l (st.step ⟨rs, v, p⟩).1 E w w' ∧ XOk (n + 1) (st.step ⟨rs, v, p⟩).1 E := by
  have ES : Hid (st.step ⟨rs, v, p⟩ = ((st.supply ⟨rs, v, p⟩).reset 5, ⟨0, 0, 0, 0⟩)) := by unfold Hid St.step; rw [if_neg (by rw [hdn]; decide), if_pos hrs]
  have hfr := hr.fresh
  have hmf : ∀ (fn : Fn) (first cap : Array Value) (w : World), (Instr.makeFunc fn first cap).run Tryz.prog w = .ok (.func fn first cap) w := fun _ _ _ _ => rfl
  obtain ⟨sa, sd, sl, sb⟩ := sense_supply st rs v p
  have hz := (h.supply ⟨rs, v, p⟩).more (Nat.le_succ n)
  have HZ : Hid (XOk (n + 1) ((st.supply ⟨rs, v, p⟩).reset 5) ex) := XOk.reset hz.clk hz.dso 5
  rw [ES.out]
  have HD : Hid _ := sd.trans hdn
  subst hrs
  have SA : Hid _ := sa
  clear sd sl sb sa hdn hz ES
  go_enter_defers Tryz.func53, Tryz.ntmps53
  go_wp2_with fail
  refine (xsense_any (((hr.alloc _).alloc _).alloc _) v).mono ?_
  rintro e w1 ⟨rfl, r1, k1⟩
  have V1 : Vars w w1 l.g true v p := (Vars.start w l.g true v p).kept k1 (hfr _ (Nat.le_refl _)) (hfr _ (by omega)) (hfr _ (by omega))
  have K1 : Kept l.own w w1 := ((((Kept.refl _ w).alloc _).alloc _).alloc _).trans k1
  clear k1
  have vb := V1.b
  have vi0 := V1.i0
  have vi1 := V1.i1
  have vi2 := V1.i2
  have cd := r1.c_down
  have hgl := r1.g_q
  have e1 : (senseS st v).down = false := HD.out
  rw [e1] at cd
  clear e1
  go_wp2_with fail
  refine (xreset_no r1 5 rfl).mono ?_
  rintro e w2 ⟨rfl, r2, k2'⟩
  have V2 := V1.kept k2' (hfr _ (Nat.le_refl _)) (hfr _ (by omega)) (hfr _ (by omega))
  have K9 : Kept l.own w w2 := K1.trans k2'
  have r9 : XRep l ((st.supply ⟨true, v, p⟩).reset 5) ex w2 := r2.alike (reset_alike' SA.out 5)
  have hno : ¬ l.own (w.heap.size + 1 + 1) := hfr _ (by omega)
  obtain ⟨⟨z0, z1, z2, z3⟩, ⟨y0, y1, y2, y3⟩, hz⟩ := V2.s
  clear k2' V1 V2 K1 r1 r2
  go_wp2
  refine leaves_cons (f := 58) (args := #[.pointer (some ⟨w.heap.size, 0, none⟩), .pointer (some ⟨w.heap.size + 1 + 1, 0, none⟩)]) (by simp) (by simp [go_sem]) ?_
  refine (catch_idle _ _ _).mono ?_
  rintro e u' w9 ⟨rfl, rfl, rfl⟩
  refine ⟨.agg #[.int .i64 0, .int .i64 0, .int .u8 0, .int .u8 0], by simp [results, Tryz.results53, go_sem, z0, z1, z2, z3], rfl, ex, ⟨l, Grew.refl l w, ?r, ?k⟩, HZ.out⟩
  case r => repeat (with_reducible first | refine XRep.other ?_ hno _ | exact r9)
  case k =>
    have k2 := K9
    (repeat (with_reducible first | apply Kept.alloc | apply Kept.drewN | apply Kept.drew | apply Kept.nb | apply Kept.g | apply Kept.bs | apply Kept.ck | apply Kept.bk | apply Kept.tm | apply Kept.wa | apply Kept.po | apply Kept.up | apply Kept.re | apply Kept.me | refine Kept.setCell ?_ (Or.inr (Nat.le_refl _)) _ | refine Kept.setCell ?_ (Or.inr (by omega)) _ | exact k1 | exact k2 | exact k3 | exact Kept.refl _ _))

set_option maxRecDepth 100000 in
set_option maxHeartbeats 2000000 in
theorem xStep_more {n : Nat} (hn : n < 4611686018427387903) {l : XL} {st : St} {ex : Ext} {w : World} (hr : XRep l st ex w) (hi : Inv st) (h : XOk n st ex) (rs : Bool) (v p : Int) (hp0 : 0 ≤ p) (hp1 : p ≤ 255) (hdn : (st.supply ⟨rs, v, p⟩).down = false) (hrs : rs = false) (hl : 0 < st.left) (hl1 : ¬ st.left - 1 = 0) :
    Calls Tryz.prog 53 #[.pointer (some ⟨l.g, 0, none⟩), .agg #[.bool rs, .int .i64 v, .int .u8 p]] w fun e w' => e = .returned (.agg #[.int .i64 (st.step ⟨rs, v, p⟩).2.kind, .int .i64 (st.step ⟨rs, v, p⟩).2.addr, .int .u8 (st.step ⟨rs, v, p⟩).2.data, .int .u8 (st.step ⟨rs, v, p⟩).2.out]) ∧ ∃ E, Went l (st.step ⟨rs, v, p⟩).1 E w w' ∧ XOk (n + 1) (st.step ⟨rs, v, p⟩).1 E := by
  have sup := supply_same st ⟨rs, v, p⟩
  have ES : Hid (st.step ⟨rs, v, p⟩ = ({ st.supply ⟨rs, v, p⟩ with left := (st.supply ⟨rs, v, p⟩).left - 1 }, ⟨0, 0, 0, 0⟩)) := by
    unfold Hid St.step
    rw [if_neg (by rw [hdn]; decide), if_neg (by show ¬ rs = true; rw [hrs]; decide), if_pos (by rw [sup.2.2.2.1]; exact hl), if_neg (by rw [sup.2.2.2.1]; exact hl1)]
  have hfr := hr.fresh
  have hmf : ∀ (fn : Fn) (first cap : Array Value) (w : World), (Instr.makeFunc fn first cap).run Tryz.prog w = .ok (.func fn first cap) w := fun _ _ _ _ => rfl
  obtain ⟨sa, sd, sl, sb⟩ := sense_supply st rs v p
  have hz := (h.supply ⟨rs, v, p⟩).more (Nat.le_succ n)
  have hlm := hi.left
  have HZ : Hid (XOk (n + 1) ({ st.supply ⟨rs, v, p⟩ with left := (st.supply ⟨rs, v, p⟩).left - 1 } : St) ex) := ⟨hz.clk.as rfl rfl rfl rfl rfl rfl, hz.dso, fun a => absurd a (by show ¬ (st.supply ⟨rs, v, p⟩).left - 1 = 0; rw [sup.2.2.2.1]; exact hl1)⟩
  rw [ES.out]
  have HD : Hid _ := sd.trans hdn
  have HL : Hid _ := sl
  have SL : Hid ((st.supply ⟨rs, v, p⟩).left = st.left) := sup.2.2.2.1
  have h4 := hlm.2
  have hl' : 0 < (senseS st v).left := by rw [sl]; exact hl
  have h4' : (senseS st v).left ≤ 4 := by rw [sl]; exact h4
  have hl1' : ¬ (senseS st v).left - 1 = 0 := by rw [sl]; exact hl1
  have HW : Hid (∀ w, XRep l (senseS st v) ex w → Calls Tryz.prog 62 #[.pointer (some ⟨l.g, 0, none⟩)] w fun e w' => e = .returned (.tuple #[]) ∧ Went l { senseS st v with left := (senseS st v).left - 1 } ex w w') := fun w hw => xwait_more hw hl' h4' hl1'
  subst hrs
  have SA : Hid _ := sa
  clear sd sl sb sa hdn hz ES sup hl1 h4 h4' hl1' hlm
  go_enter_defers Tryz.func53, Tryz.ntmps53
  go_wp2_with fail
  refine (xsense_any (((hr.alloc _).alloc _).alloc _) v).mono ?_
  rintro e w1 ⟨rfl, r1, k1⟩
  have V1 : Vars w w1 l.g false v p := (Vars.start w l.g false v p).kept k1 (hfr _ (Nat.le_refl _)) (hfr _ (by omega)) (hfr _ (by omega))
  have K1 : Kept l.own w w1 := ((((Kept.refl _ w).alloc _).alloc _).alloc _).trans k1
  clear k1
  have vb := V1.b
  have vi0 := V1.i0
  have vi1 := V1.i1
  have vi2 := V1.i2
  have cd := r1.c_down
  have hgl := r1.g_q
  have e1 : (senseS st v).down = false := HD.out
  rw [e1] at cd
  have cl := r1.c_left
  clear e1
  go_wp2_with fail
  refine (HW.out _ r1).mono ?_
  rintro e w2 ⟨rfl, l2, g2, r2, k2'⟩
  have V2 := V1.kept k2' (hfr _ (Nat.le_refl _)) (hfr _ (by omega)) (hfr _ (by omega))
  have K9 : Kept l.own w w2 := K1.trans k2'
  have G9 : Grew l l2 w := g2.later K1.size
  have hlt := V1.s.2.2
  have r9 : XRep l2 ({ st.supply ⟨false, v, p⟩ with left := (st.supply ⟨false, v, p⟩).left - 1 } : St) ex w2 := by
    refine r2.alike ?_
    have e2 := SA.out
    have e3 : (senseS st v).left = (st.supply ⟨false, v, p⟩).left := by rw [SL.out, HL.out]
    rw [e3]
    unfold Alike at e2 ⊢
    rw [e2]
  have hno : ¬ l2.own (w.heap.size + 1 + 1) := g2.out hr (by omega) hlt
  obtain ⟨⟨z0, z1, z2, z3⟩, ⟨y0, y1, y2, y3⟩, hz⟩ := V2.s
  clear k2' V1 V2 K1 r1 r2 g2
  go_wp2
  refine leaves_cons (f := 58) (args := #[.pointer (some ⟨w.heap.size, 0, none⟩), .pointer (some ⟨w.heap.size + 1 + 1, 0, none⟩)]) (by simp) (by simp [go_sem]) ?_
  refine (catch_idle _ _ _).mono ?_
  rintro e u' w9 ⟨rfl, rfl, rfl⟩
  refine ⟨.agg #[.int .i64 0, .int .i64 0, .int .u8 0, .int .u8 0], by simp [results, Tryz.results53, go_sem, z0, z1, z2, z3], rfl, ex, ⟨l2, G9, ?r, ?k⟩, HZ.out⟩
  case r => repeat (with_reducible first | refine XRep.other ?_ hno _ | exact r9)
  case k =>
    have k2 := K9
    (repeat (with_reducible first | apply Kept.alloc | apply Kept.drewN | apply Kept.drew | apply Kept.nb | apply Kept.g | apply Kept.bs | apply Kept.ck | apply Kept.bk | apply Kept.tm | apply Kept.wa | apply Kept.po | apply Kept.up | apply Kept.re | apply Kept.me | refine Kept.setCell ?_ (Or.inr (Nat.le_refl _)) _ | refine Kept.setCell ?_ (Or.inr (by omega)) _ | exact k1 | exact k2 | exact k3 | exact Kept.refl _ _))

end Go.Proofs.YtommhbidkoeifaaGreat
