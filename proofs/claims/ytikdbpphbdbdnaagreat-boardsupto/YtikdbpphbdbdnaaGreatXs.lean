/- Of several texts, one behind the other. -/
import Derived.Test.YtikdbpphbdbdnaaGreatBoard6
import Derived.Test.YtikdbpphbdbdnaaGreatXr
import Derived.Test.YtikdbpphbdbdnaaGreatBoardT
/- The program's board: a step in which the board is held, or dead. -/
namespace Go.Proofs.YtikdbpphbdbdnaaGreat
open Go.RowKit
set_option linter.unusedVariables false

set_option maxRecDepth 100000 in
set_option maxHeartbeats 400000 in
theorem xwait_more {l : XL} {st : St} {ex : Ext} {w : World} (hr : XRep l st ex w) (h0 : 0 < st.left) (h4 : st.left ≤ 4) (h1 : ¬ st.left - 1 = 0) :
    Calls Tryz.prog 67 #[.pointer (some ⟨l.g, 0, none⟩)] w fun e w' => e = .returned (.tuple #[]) ∧ Went l { st with left := st.left - 1 } ex w w' := by
  have c1 := hr.c_left
  have f1 := hr.f_left
  have hb : (st.left - 1 == 0) = false := by simpa using h1
  have hr1 := hr.set_left (st.left - 1)
  have HR : Hid _ := hr1
  clear h1 hr1
  go_enter Tryz.func67, Tryz.ntmps67
  go_wp2
  (first | go_end0 | refine bodyPost_ret (results_none rfl _ _ _) rfl ?_)
  exact ⟨rfl, Went.mk HR.out ((Kept.refl _ _).g _ _)⟩

set_option maxRecDepth 100000 in
set_option maxHeartbeats 400000 in
theorem xwait_boot {l : XL} {st : St} {ex : Ext} {w : World} (hr : XRep l st ex w) (hd : DsOk ex.due) (n0 : 0 ≤ ex.now) (n1 : ex.now < 4611686018427387904) (b0 : ∀ i, 0 ≤ st.b0 i ∧ st.b0 i ≤ 255) (b1 : ∀ i, 0 ≤ st.b1 i ∧ st.b1 i ≤ 255) (h1 : st.left = 1) :
    Calls Tryz.prog 67 #[.pointer (some ⟨l.g, 0, none⟩)] w fun e w' => e = .returned (.tuple #[]) ∧ Went l (bootS { st with left := 0 }) (bootX ex) w w' := by
  have c1 := hr.c_left
  have f1 := hr.f_left
  rw [h1] at c1
  have HX : Hid _ := xboot_any (hr.set_left 0) hd n0 n1 b0 b1
  have k0 : Kept l.own w (w.setCell ⟨l.g, 19, none⟩ (.int .i64 0)) := (Kept.refl _ _).g _ _
  clear h1
  go_enter Tryz.func67, Tryz.ntmps67
  go_wp2_with fail
  refine Calls.mono HX.out ?_
  rintro e w1 ⟨rfl, went⟩
  have went2 := Went.before k0 went
  go_wp2
  (first | go_end0 | refine bodyPost_ret (results_none rfl _ _ _) rfl ?_)
  exact ⟨rfl, went2⟩

/-- A step's own variables: the board's pointer, the input, what is seen. -/
def stepW (w : World) (g : Nat) (rs : Bool) (v p : Int) : World := ((w.alloc (.cells #[.pointer (some ⟨g, 0, none⟩)] 90)).alloc (.cells #[.bool rs, .int .i64 v, .int .u8 p] 40)).alloc zc

/-- What is left of them. -/
structure Vars (w w1 : World) (g : Nat) (rs : Bool) (v p : Int) : Prop where
  b : w1.cell? ⟨w.heap.size, 0, none⟩ = some (.pointer (some ⟨g, 0, none⟩))
  i0 : w1.cell? ⟨w.heap.size + 1, 0, none⟩ = some (.bool rs)
  i1 : w1.cell? ⟨w.heap.size + 1, 1, none⟩ = some (.int .i64 v)
  i2 : w1.cell? ⟨w.heap.size + 1, 2, none⟩ = some (.int .u8 p)
  s : CyAt w1 (w.heap.size + 1 + 1) 0 0 0 0

theorem Vars.start (w : World) (g : Nat) (rs : Bool) (v p : Int) : Vars w (stepW w g rs v p) g rs v p := by
  have s1 : ∀ o, (w.alloc o).heap.size = w.heap.size + 1 := fun o => World.size_alloc _ _
  have s2 : ∀ o o', ((w.alloc o).alloc o').heap.size = w.heap.size + 1 + 1 := fun o o' => by rw [World.size_alloc, World.size_alloc]
  refine ⟨by unfold stepW zc; simp [go_sem], by unfold stepW zc; simp [go_sem], by unfold stepW zc; simp [go_sem], by unfold stepW zc; simp [go_sem], CyAt.of ?_⟩
  unfold stepW
  rw [← s2 _ _]
  exact heap_at _ zc

theorem Vars.kept {S : Nat → Prop} {w w1 w2 : World} {g : Nat} {rs : Bool} {v p : Int} (h : Vars w w1 g rs v p) (hk : Kept S w1 w2) (h0 : ¬ S w.heap.size) (h1 : ¬ S (w.heap.size + 1)) (h2 : ¬ S (w.heap.size + 1 + 1)) : Vars w w2 g rs v p := by
  have l0 := lt_of_cell h.b
  have l1 := lt_of_cell h.i0
  exact ⟨by rw [hk.cell l0 h0]; exact h.b, by rw [hk.cell l1 h1]; exact h.i0, by rw [hk.cell l1 h1]; exact h.i1, by rw [hk.cell l1 h1]; exact h.i2, h.s.kept hk h2⟩

/-- What stands in memory behind the supply was sensed. -/
theorem sense_supply (st : St) (rs : Bool) (v p : Int) : Alike (senseS st v) (st.supply ⟨rs, v, p⟩) ∧ (senseS st v).down = (st.supply ⟨rs, v, p⟩).down ∧ (senseS st v).left = st.left ∧ (senseS st v).bank = st.bank := by
  unfold Alike senseS St.supply
  by_cases h1 : v < 2700
  · rw [if_pos h1, if_pos h1]; exact ⟨rfl, rfl, rfl, rfl⟩
  · rw [if_neg h1, if_neg h1]
    by_cases h2 : 3000 ≤ v
    · rw [if_pos h2, if_pos h2]; exact ⟨rfl, rfl, rfl, rfl⟩
    · rw [if_neg h2, if_neg h2]; exact ⟨rfl, rfl, rfl, rfl⟩

theorem supply_same (st : St) (i : In) : (st.supply i).period = st.period ∧ (st.supply i).count = st.count ∧ (st.supply i).age = st.age ∧ (st.supply i).left = st.left ∧ (st.supply i).bank = st.bank ∧ (st.supply i).phase = st.phase ∧ (st.supply i).op = st.op ∧ (st.supply i).opd = st.opd ∧ (st.supply i).x = st.x ∧ (st.supply i).inp = i.port := by
  unfold St.supply
  split
  · exact ⟨rfl, rfl, rfl, rfl, rfl, rfl, rfl, rfl, rfl, rfl⟩
  split
  · exact ⟨rfl, rfl, rfl, rfl, rfl, rfl, rfl, rfl, rfl, rfl⟩
  · exact ⟨rfl, rfl, rfl, rfl, rfl, rfl, rfl, rfl, rfl, rfl⟩

theorem XRep.alike {l : XL} {s t : St} {ex : Ext} {w : World} (h : XRep l s ex w) (e : Alike s t) : XRep l t ex w := by
  have h2 := h.ghost t.op t.opd t.phase t.count t.age t.inp t.rst
  rw [← e] at h2
  exact h2

theorem XOk.supply {n : Nat} {st : St} {ex : Ext} (h : XOk n st ex) (i : In) : XOk n (st.supply i) ex := by
  obtain ⟨a1, a2, a3, a4, a5, a6, a7, a8, a9, _⟩ := supply_same st i
  refine ⟨h.clk.as rfl rfl rfl a1 a2 a3, h.dso, fun q1 q2 => ?_⟩
  have q := h.run (a4 ▸ q1) (a5 ▸ q2)
  exact ⟨q.clk.as rfl rfl rfl a1 a2 a3, by rw [a1]; exact q.due, q.ph.as a6 a7 a8 a9 rfl rfl rfl rfl, q.early⟩

end Go.Proofs.YtikdbpphbdbdnaaGreat

/- The program's board: a step, case by case. -/
namespace Go.Proofs.YtikdbpphbdbdnaaGreat
open Go.RowKit
set_option linter.unusedVariables false

theorem Grew.out {l l' : XL} {w W : World} (g : Grew l l' W) {st : St} {ex : Ext} (hr : XRep l st ex w) {b : Nat} (hb : w.heap.size ≤ b) (hW : b < W.heap.size) : ¬ l'.own b := fun x => by
  rcases g.own x with y | y
  · exact hr.fresh _ hb y
  · omega

set_option maxRecDepth 100000 in
set_option maxHeartbeats 2000000 in
theorem xStep_down {n : Nat} (hn : n < 4611686018427387903) {l : XL} {st : St} {ex : Ext} {w : World} (hr : XRep l st ex w) (hi : Inv st) (h : XOk n st ex) (rs : Bool) (v p : Int) (hp0 : 0 ≤ p) (hp1 : p ≤ 255) (hdn : (st.supply ⟨rs, v, p⟩).down = true) :
    Calls Tryz.prog 58 #[.pointer (some ⟨l.g, 0, none⟩), .agg #[.bool rs, .int .i64 v, .int .u8 p]] w fun e w' => e = .returned (.agg #[.int .i64 (st.step ⟨rs, v, p⟩).2.kind, .int .i64 (st.step ⟨rs, v, p⟩).2.addr, .int .u8 (st.step ⟨rs, v, p⟩).2.data, .int .u8 (st.step ⟨rs, v, p⟩).2.out]) ∧ ∃ E, Went l (st.step ⟨rs, v, p⟩).1 E w w' ∧ XOk (n + 1) (st.step ⟨rs, v, p⟩).1 E := by
  have ES : Hid (st.step ⟨rs, v, p⟩ = ((st.supply ⟨rs, v, p⟩).reset 6, ⟨0, 0, 0, 0⟩)) := by unfold Hid St.step; rw [if_pos hdn]
  have hfr := hr.fresh
  have hmf : ∀ (fn : Fn) (first cap : Array Value) (w : World), (Instr.makeFunc fn first cap).run Tryz.prog w = .ok (.func fn first cap) w := fun _ _ _ _ => rfl
  obtain ⟨sa, sd, sl, sb⟩ := sense_supply st rs v p
  have hz := (h.supply ⟨rs, v, p⟩).more (Nat.le_succ n)
  have HZ : Hid (XOk (n + 1) ((st.supply ⟨rs, v, p⟩).reset 6) ex) := XOk.reset hz.clk hz.dso 6
  rw [ES.out]
  have HD : Hid _ := sd.trans hdn
  have SA : Hid _ := sa
  clear sd sl sb sa hdn hz ES
  go_enter_defers Tryz.func58, Tryz.ntmps58
  go_wp2_with fail
  refine (xsense_any (((hr.alloc _).alloc _).alloc _) v).mono ?_
  rintro e w1 ⟨rfl, r1, k1⟩
  have V1 : Vars w w1 l.g rs v p := (Vars.start w l.g rs v p).kept k1 (hfr _ (Nat.le_refl _)) (hfr _ (by omega)) (hfr _ (by omega))
  have K1 : Kept l.own w w1 := ((((Kept.refl _ w).alloc _).alloc _).alloc _).trans k1
  clear k1
  have vb := V1.b
  have vi0 := V1.i0
  have vi1 := V1.i1
  have vi2 := V1.i2
  have cd := r1.c_down
  have hgl := r1.g_q
  have e1 : (senseS st v).down = true := HD.out
  rw [e1] at cd
  clear e1
  go_wp2_with fail
  refine (xreset_no r1 6 rfl).mono ?_
  rintro e w2 ⟨rfl, r2, k2'⟩
  have V2 := V1.kept k2' (hfr _ (Nat.le_refl _)) (hfr _ (by omega)) (hfr _ (by omega))
  have K9 : Kept l.own w w2 := K1.trans k2'
  have r9 : XRep l ((st.supply ⟨rs, v, p⟩).reset 6) ex w2 := r2.alike (reset_alike' SA.out 6)
  have hno : ¬ l.own (w.heap.size + 1 + 1) := hfr _ (by omega)
  obtain ⟨⟨z0, z1, z2, z3⟩, ⟨y0, y1, y2, y3⟩, hz⟩ := V2.s
  clear k2' V1 V2 K1 r1 r2
  go_wp2
  refine leaves_cons (f := 63) (args := #[.pointer (some ⟨w.heap.size, 0, none⟩), .pointer (some ⟨w.heap.size + 1 + 1, 0, none⟩)]) (by simp) (by simp [go_sem]) ?_
  refine (catch_idle _ _ _).mono ?_
  rintro e u' w9 ⟨rfl, rfl, rfl⟩
  refine ⟨.agg #[.int .i64 0, .int .i64 0, .int .u8 0, .int .u8 0], by simp [results, Tryz.results58, go_sem, z0, z1, z2, z3], rfl, ex, ⟨l, Grew.refl l w, ?r, ?k⟩, HZ.out⟩
  case r => repeat (with_reducible first | refine XRep.other ?_ hno _ | exact r9)
  case k =>
    have k2 := K9
    (repeat (with_reducible first | apply Kept.alloc | apply Kept.drewN | apply Kept.drew | apply Kept.nb | apply Kept.g | apply Kept.bs | apply Kept.ck | apply Kept.bk | apply Kept.tm | apply Kept.wa | apply Kept.po | apply Kept.up | apply Kept.re | apply Kept.me | refine Kept.setCell ?_ (Or.inr (Nat.le_refl _)) _ | refine Kept.setCell ?_ (Or.inr (by omega)) _ | exact k1 | exact k2 | exact k3 | exact Kept.refl _ _))

set_option maxRecDepth 100000 in
set_option maxHeartbeats 2000000 in
theorem xStep_pin {n : Nat} (hn : n < 4611686018427387903) {l : XL} {st : St} {ex : Ext} {w : World} (hr : XRep l st ex w) (hi : Inv st) (h : XOk n st ex) (rs : Bool) (v p : Int) (hp0 : 0 ≤ p) (hp1 : p ≤ 255) (hdn : (st.supply ⟨rs, v, p⟩).down = false) (hrs : rs = true) :
    Calls Tryz.prog 58 #[.pointer (some ⟨l.g, 0, none⟩), .agg #[.bool rs, .int .i64 v, .int .u8 p]] w fun e w' => e = .returned (.agg #[.int .i64 (st.step ⟨rs, v, p⟩).2.kind, .int .i64 (st.step ⟨rs, v, p⟩).2.addr, .int .u8 (st.step ⟨rs, v, p⟩).2.data, .int .u8 (st.step ⟨rs, v, p⟩).2.out]) ∧ ∃ E, Went l (st.step ⟨rs, v, p⟩).1 E w w' ∧ XOk (n + 1) (st.step ⟨rs, v, p⟩).1 E := by
  have ES : Hid (st.step ⟨rs, v, p⟩ = ((st.supply ⟨rs, v, p⟩).reset 5, ⟨0, 0, 0, 0⟩)) := by unfold Hid St.step; rw [if_neg (by rw [hdn]; decide), if_pos hrs]
  have hfr := hr.fresh
  have hmf : ∀ (fn : Fn) (first cap : Array Value) (w : World), (Instr.makeFunc fn first cap).run Tryz.prog w = .ok (.func fn first cap) w := fun _ _ _ _ => rfl
  obtain ⟨sa, sd, sl, sb⟩ := sense_supply st rs v p
  have hz := (h.supply ⟨rs, v, p⟩).more (Nat.le_succ n)
  have HZ : Hid (XOk (n + 1) ((st.supply ⟨rs, v, p⟩).reset 5) ex) := XOk.reset hz.clk hz.dso 5
  rw [ES.out]
  have HD : Hid _ := sd.trans hdn
  subst hrs
  have SA : Hid _ := sa
  clear sd sl sb sa hdn hz ES
  go_enter_defers Tryz.func58, Tryz.ntmps58
  go_wp2_with fail
  refine (xsense_any (((hr.alloc _).alloc _).alloc _) v).mono ?_
  rintro e w1 ⟨rfl, r1, k1⟩
  have V1 : Vars w w1 l.g true v p := (Vars.start w l.g true v p).kept k1 (hfr _ (Nat.le_refl _)) (hfr _ (by omega)) (hfr _ (by omega))
  have K1 : Kept l.own w w1 := ((((Kept.refl _ w).alloc _).alloc _).alloc _).trans k1
  clear k1
  have vb := V1.b
  have vi0 := V1.i0
  have vi1 := V1.i1
  have vi2 := V1.i2
  have cd := r1.c_down
  have hgl := r1.g_q
  have e1 : (senseS st v).down = false := HD.out
  rw [e1] at cd
  clear e1
  go_wp2_with fail
  refine (xreset_no r1 5 rfl).mono ?_
  rintro e w2 ⟨rfl, r2, k2'⟩
  have V2 := V1.kept k2' (hfr _ (Nat.le_refl _)) (hfr _ (by omega)) (hfr _ (by omega))
  have K9 : Kept l.own w w2 := K1.trans k2'
  have r9 : XRep l ((st.supply ⟨true, v, p⟩).reset 5) ex w2 := r2.alike (reset_alike' SA.out 5)
  have hno : ¬ l.own (w.heap.size + 1 + 1) := hfr _ (by omega)
  obtain ⟨⟨z0, z1, z2, z3⟩, ⟨y0, y1, y2, y3⟩, hz⟩ := V2.s
  clear k2' V1 V2 K1 r1 r2
  go_wp2
  refine leaves_cons (f := 63) (args := #[.pointer (some ⟨w.heap.size, 0, none⟩), .pointer (some ⟨w.heap.size + 1 + 1, 0, none⟩)]) (by simp) (by simp [go_sem]) ?_
  refine (catch_idle _ _ _).mono ?_
  rintro e u' w9 ⟨rfl, rfl, rfl⟩
  refine ⟨.agg #[.int .i64 0, .int .i64 0, .int .u8 0, .int .u8 0], by simp [results, Tryz.results58, go_sem, z0, z1, z2, z3], rfl, ex, ⟨l, Grew.refl l w, ?r, ?k⟩, HZ.out⟩
  case r => repeat (with_reducible first | refine XRep.other ?_ hno _ | exact r9)
  case k =>
    have k2 := K9
    (repeat (with_reducible first | apply Kept.alloc | apply Kept.drewN | apply Kept.drew | apply Kept.nb | apply Kept.g | apply Kept.bs | apply Kept.ck | apply Kept.bk | apply Kept.tm | apply Kept.wa | apply Kept.po | apply Kept.up | apply Kept.re | apply Kept.me | refine Kept.setCell ?_ (Or.inr (Nat.le_refl _)) _ | refine Kept.setCell ?_ (Or.inr (by omega)) _ | exact k1 | exact k2 | exact k3 | exact Kept.refl _ _))

set_option maxRecDepth 100000 in
set_option maxHeartbeats 2000000 in
theorem xStep_more {n : Nat} (hn : n < 4611686018427387903) {l : XL} {st : St} {ex : Ext} {w : World} (hr : XRep l st ex w) (hi : Inv st) (h : XOk n st ex) (rs : Bool) (v p : Int) (hp0 : 0 ≤ p) (hp1 : p ≤ 255) (hdn : (st.supply ⟨rs, v, p⟩).down = false) (hrs : rs = false) (hl : 0 < st.left) (hl1 : ¬ st.left - 1 = 0) :
    Calls Tryz.prog 58 #[.pointer (some ⟨l.g, 0, none⟩), .agg #[.bool rs, .int .i64 v, .int .u8 p]] w fun e w' => e = .returned (.agg #[.int .i64 (st.step ⟨rs, v, p⟩).2.kind, .int .i64 (st.step ⟨rs, v, p⟩).2.addr, .int .u8 (st.step ⟨rs, v, p⟩).2.data, .int .u8 (st.step ⟨rs, v, p⟩).2.out]) ∧ ∃ E, Went l (st.step ⟨rs, v, p⟩).1 E w w' ∧ XOk (n + 1) (st.step ⟨rs, v, p⟩).1 E := by
  have sup := supply_same st ⟨rs, v, p⟩
  have ES : Hid (st.step ⟨rs, v, p⟩ = ({ st.supply ⟨rs, v, p⟩ with left := (st.supply ⟨rs, v, p⟩).left - 1 }, ⟨0, 0, 0, 0⟩)) := by
    unfold Hid St.step
    rw [if_neg (by rw [hdn]; decide), if_neg (by show ¬ rs = true; rw [hrs]; decide), if_pos (by rw [sup.2.2.2.1]; exact hl), if_neg (by rw [sup.2.2.2.1]; exact hl1)]
  have hfr := hr.fresh
  have hmf : ∀ (fn : Fn) (first cap : Array Value) (w : World), (Instr.makeFunc fn first cap).run Tryz.prog w = .ok (.func fn first cap) w := fun _ _ _ _ => rfl
  obtain ⟨sa, sd, sl, sb⟩ := sense_supply st rs v p
  have hz := (h.supply ⟨rs, v, p⟩).more (Nat.le_succ n)
  have hlm := hi.left
  have HZ : Hid (XOk (n + 1) ({ st.supply ⟨rs, v, p⟩ with left := (st.supply ⟨rs, v, p⟩).left - 1 } : St) ex) := ⟨hz.clk.as rfl rfl rfl rfl rfl rfl, hz.dso, fun a => absurd a (by show ¬ (st.supply ⟨rs, v, p⟩).left - 1 = 0; rw [sup.2.2.2.1]; exact hl1)⟩
  rw [ES.out]
  have HD : Hid _ := sd.trans hdn
  have HL : Hid _ := sl
  have SL : Hid ((st.supply ⟨rs, v, p⟩).left = st.left) := sup.2.2.2.1
  have h4 := hlm.2
  have hl' : 0 < (senseS st v).left := by rw [sl]; exact hl
  have h4' : (senseS st v).left ≤ 4 := by rw [sl]; exact h4
  have hl1' : ¬ (senseS st v).left - 1 = 0 := by rw [sl]; exact hl1
  have HW : Hid (∀ w, XRep l (senseS st v) ex w → Calls Tryz.prog 67 #[.pointer (some ⟨l.g, 0, none⟩)] w fun e w' => e = .returned (.tuple #[]) ∧ Went l { senseS st v with left := (senseS st v).left - 1 } ex w w') := fun w hw => xwait_more hw hl' h4' hl1'
  subst hrs
  have SA : Hid _ := sa
  clear sd sl sb sa hdn hz ES sup hl1 h4 h4' hl1' hlm
  go_enter_defers Tryz.func58, Tryz.ntmps58
  go_wp2_with fail
  refine (xsense_any (((hr.alloc _).alloc _).alloc _) v).mono ?_
  rintro e w1 ⟨rfl, r1, k1⟩
  have V1 : Vars w w1 l.g false v p := (Vars.start w l.g false v p).kept k1 (hfr _ (Nat.le_refl _)) (hfr _ (by omega)) (hfr _ (by omega))
  have K1 : Kept l.own w w1 := ((((Kept.refl _ w).alloc _).alloc _).alloc _).trans k1
  clear k1
  have vb := V1.b
  have vi0 := V1.i0
  have vi1 := V1.i1
  have vi2 := V1.i2
  have cd := r1.c_down
  have hgl := r1.g_q
  have e1 : (senseS st v).down = false := HD.out
  rw [e1] at cd
  have cl := r1.c_left
  clear e1
  go_wp2_with fail
  refine (HW.out _ r1).mono ?_
  rintro e w2 ⟨rfl, l2, g2, r2, k2'⟩
  have V2 := V1.kept k2' (hfr _ (Nat.le_refl _)) (hfr _ (by omega)) (hfr _ (by omega))
  have K9 : Kept l.own w w2 := K1.trans k2'
  have G9 : Grew l l2 w := g2.later K1.size
  have hlt := V1.s.2.2
  have r9 : XRep l2 ({ st.supply ⟨false, v, p⟩ with left := (st.supply ⟨false, v, p⟩).left - 1 } : St) ex w2 := by
    refine r2.alike ?_
    have e2 := SA.out
    have e3 : (senseS st v).left = (st.supply ⟨false, v, p⟩).left := by rw [SL.out, HL.out]
    rw [e3]
    unfold Alike at e2 ⊢
    rw [e2]
  have hno : ¬ l2.own (w.heap.size + 1 + 1) := g2.out hr (by omega) hlt
  obtain ⟨⟨z0, z1, z2, z3⟩, ⟨y0, y1, y2, y3⟩, hz⟩ := V2.s
  clear k2' V1 V2 K1 r1 r2 g2
  go_wp2
  refine leaves_cons (f := 63) (args := #[.pointer (some ⟨w.heap.size, 0, none⟩), .pointer (some ⟨w.heap.size + 1 + 1, 0, none⟩)]) (by simp) (by simp [go_sem]) ?_
  refine (catch_idle _ _ _).mono ?_
  rintro e u' w9 ⟨rfl, rfl, rfl⟩
  refine ⟨.agg #[.int .i64 0, .int .i64 0, .int .u8 0, .int .u8 0], by simp [results, Tryz.results58, go_sem, z0, z1, z2, z3], rfl, ex, ⟨l2, G9, ?r, ?k⟩, HZ.out⟩
  case r => repeat (with_reducible first | refine XRep.other ?_ hno _ | exact r9)
  case k =>
    have k2 := K9
    (repeat (with_reducible first | apply Kept.alloc | apply Kept.drewN | apply Kept.drew | apply Kept.nb | apply Kept.g | apply Kept.bs | apply Kept.ck | apply Kept.bk | apply Kept.tm | apply Kept.wa | apply Kept.po | apply Kept.up | apply Kept.re | apply Kept.me | refine Kept.setCell ?_ (Or.inr (Nat.le_refl _)) _ | refine Kept.setCell ?_ (Or.inr (by omega)) _ | exact k1 | exact k2 | exact k3 | exact Kept.refl _ _))

end Go.Proofs.YtikdbpphbdbdnaaGreat

/- The program's board: a step, case by case: the boot, a dead board, the processor's cycle. -/
namespace Go.Proofs.YtikdbpphbdbdnaaGreat
open Go.RowKit
set_option linter.unusedVariables false
set_option linter.unusedSimpArgs false

theorem boot_alike' (s : St) (op opd ph co ag inp rs : Int) : Alike (bootS s) (({ s with op := op, opd := opd, phase := ph, count := co, age := ag, inp := inp, rst := rs } : St).boot) := by
  unfold Alike bootS chooseS St.boot leftS
  cases h : anewB (bankS s.b0) (bankS s.b1) s.s0 s.s1
  · simp [h]
  · simp [h]

theorem boot_alike {s t : St} (h : Alike s t) : Alike (bootS s) t.boot := by
  have h2 := boot_alike' s t.op t.opd t.phase t.count t.age t.inp t.rst
  rw [← h] at h2
  exact h2

theorem alike_left {s t : St} (h : Alike s t) (n : Int) : Alike ({ s with left := n } : St) ({ t with left := n } : St) := by
  unfold Alike at h ⊢
  rw [h]

set_option maxRecDepth 100000 in
set_option maxHeartbeats 2000000 in
theorem xStep_boot {n : Nat} (hn : n < 4611686018427387903) {l : XL} {st : St} {ex : Ext} {w : World} (hr : XRep l st ex w) (hi : Inv st) (h : XOk n st ex) (rs : Bool) (v p : Int) (hp0 : 0 ≤ p) (hp1 : p ≤ 255) (hdn : (st.supply ⟨rs, v, p⟩).down = false) (hrs : rs = false) (hl : st.left = 1) :
    Calls Tryz.prog 58 #[.pointer (some ⟨l.g, 0, none⟩), .agg #[.bool rs, .int .i64 v, .int .u8 p]] w fun e w' => e = .returned (.agg #[.int .i64 (st.step ⟨rs, v, p⟩).2.kind, .int .i64 (st.step ⟨rs, v, p⟩).2.addr, .int .u8 (st.step ⟨rs, v, p⟩).2.data, .int .u8 (st.step ⟨rs, v, p⟩).2.out]) ∧ ∃ E, Went l (st.step ⟨rs, v, p⟩).1 E w w' ∧ XOk (n + 1) (st.step ⟨rs, v, p⟩).1 E := by
  have sup := supply_same st ⟨rs, v, p⟩
  have ES : Hid (st.step ⟨rs, v, p⟩ = (({ st.supply ⟨rs, v, p⟩ with left := 0 } : St).boot, ⟨0, 0, 0, 0⟩)) := by
    unfold Hid St.step
    rw [if_neg (by rw [hdn]; decide), if_neg (by show ¬ rs = true; rw [hrs]; decide), if_pos (by rw [sup.2.2.2.1]; omega), if_pos (by rw [sup.2.2.2.1]; omega), sup.2.2.2.1, hl]
    rfl
  have hfr := hr.fresh
  have hmf : ∀ (fn : Fn) (first cap : Array Value) (w : World), (Instr.makeFunc fn first cap).run Tryz.prog w = .ok (.func fn first cap) w := fun _ _ _ _ => rfl
  obtain ⟨sa, sd, sl, sb⟩ := sense_supply st rs v p
  have hn1 := h.clk.n1
  have HZ : Hid (XOk (n + 1) ({ st.supply ⟨rs, v, p⟩ with left := 0 } : St).boot (bootX ex)) := by
    have q := boot_rel (n := n) (st := ({ st.supply ⟨rs, v, p⟩ with left := 0 } : St)) h.clk.n0 h.clk.n1
    exact XOk.more ⟨q.clk, q.ok, fun _ _ => q⟩ (Nat.le_succ n)
  rw [ES.out]
  have HD : Hid _ := sd.trans hdn
  have hl' : (senseS st v).left = 1 := by rw [sl]; exact hl
  have hbk : (senseS st v).b0 = st.b0 ∧ (senseS st v).b1 = st.b1 := by unfold senseS; split; exact ⟨rfl, rfl⟩; split; exact ⟨rfl, rfl⟩; exact ⟨rfl, rfl⟩
  have HW : Hid (∀ w, XRep l (senseS st v) ex w → Calls Tryz.prog 67 #[.pointer (some ⟨l.g, 0, none⟩)] w fun e w' => e = .returned (.tuple #[]) ∧ Went l (bootS { senseS st v with left := 0 }) (bootX ex) w w') := fun w hw => xwait_boot hw h.dso h.clk.n0 (by omega) (by rw [hbk.1]; exact hi.b0) (by rw [hbk.2]; exact hi.b1) hl'
  have HL : Hid _ := hl'
  subst hrs
  have SA : Hid _ := sa
  clear sd sl sb sa hdn ES sup hl hbk hl'
  go_enter_defers Tryz.func58, Tryz.ntmps58
  go_wp2_with fail
  refine (xsense_any (((hr.alloc _).alloc _).alloc _) v).mono ?_
  rintro e w1 ⟨rfl, r1, k1⟩
  have V1 : Vars w w1 l.g false v p := (Vars.start w l.g false v p).kept k1 (hfr _ (Nat.le_refl _)) (hfr _ (by omega)) (hfr _ (by omega))
  have K1 : Kept l.own w w1 := ((((Kept.refl _ w).alloc _).alloc _).alloc _).trans k1
  clear k1
  have vb := V1.b
  have vi0 := V1.i0
  have vi1 := V1.i1
  have vi2 := V1.i2
  have cd := r1.c_down
  have hgl := r1.g_q
  have e1 : (senseS st v).down = false := HD.out
  rw [e1] at cd
  have cl := r1.c_left
  have e2 : (senseS st v).left = 1 := HL.out
  rw [e2] at cl
  clear e1 e2
  go_wp2_with fail
  refine (HW.out _ r1).mono ?_
  rintro e w2 ⟨rfl, l2, g2, r2, k2'⟩
  have V2 := V1.kept k2' (hfr _ (Nat.le_refl _)) (hfr _ (by omega)) (hfr _ (by omega))
  have K9 : Kept l.own w w2 := K1.trans k2'
  have G9 : Grew l l2 w := g2.later K1.size
  have hlt := V1.s.2.2
  have r9 : XRep l2 (({ st.supply ⟨false, v, p⟩ with left := 0 } : St).boot) (bootX ex) w2 := r2.alike (boot_alike (alike_left SA.out 0))
  have hno : ¬ l2.own (w.heap.size + 1 + 1) := g2.out hr (by omega) hlt
  obtain ⟨⟨z0, z1, z2, z3⟩, ⟨y0, y1, y2, y3⟩, hz⟩ := V2.s
  clear k2' V1 V2 K1 r1 r2 g2
  go_wp2
  refine leaves_cons (f := 63) (args := #[.pointer (some ⟨w.heap.size, 0, none⟩), .pointer (some ⟨w.heap.size + 1 + 1, 0, none⟩)]) (by simp) (by simp [go_sem]) ?_
  refine (catch_idle _ _ _).mono ?_
  rintro e u' w9 ⟨rfl, rfl, rfl⟩
  refine ⟨.agg #[.int .i64 0, .int .i64 0, .int .u8 0, .int .u8 0], by simp [results, Tryz.results58, go_sem, z0, z1, z2, z3], rfl, bootX ex, ⟨l2, G9, ?r, ?k⟩, HZ.out⟩
  case r => repeat (with_reducible first | refine XRep.other ?_ hno _ | exact r9)
  case k =>
    have k2 := K9
    (repeat (with_reducible first | apply Kept.alloc | apply Kept.drewN | apply Kept.drew | apply Kept.nb | apply Kept.g | apply Kept.bs | apply Kept.ck | apply Kept.bk | apply Kept.tm | apply Kept.wa | apply Kept.po | apply Kept.up | apply Kept.re | apply Kept.me | refine Kept.setCell ?_ (Or.inr (Nat.le_refl _)) _ | refine Kept.setCell ?_ (Or.inr (by omega)) _ | exact k1 | exact k2 | exact k3 | exact Kept.refl _ _))

set_option maxRecDepth 100000 in
set_option maxHeartbeats 2000000 in
theorem xStep_dead {n : Nat} (hn : n < 4611686018427387903) {l : XL} {st : St} {ex : Ext} {w : World} (hr : XRep l st ex w) (hi : Inv st) (h : XOk n st ex) (rs : Bool) (v p : Int) (hp0 : 0 ≤ p) (hp1 : p ≤ 255) (hdn : (st.supply ⟨rs, v, p⟩).down = false) (hrs : rs = false) (hl : st.left = 0) (hbk : st.bank = -1) :
    Calls Tryz.prog 58 #[.pointer (some ⟨l.g, 0, none⟩), .agg #[.bool rs, .int .i64 v, .int .u8 p]] w fun e w' => e = .returned (.agg #[.int .i64 (st.step ⟨rs, v, p⟩).2.kind, .int .i64 (st.step ⟨rs, v, p⟩).2.addr, .int .u8 (st.step ⟨rs, v, p⟩).2.data, .int .u8 (st.step ⟨rs, v, p⟩).2.out]) ∧ ∃ E, Went l (st.step ⟨rs, v, p⟩).1 E w w' ∧ XOk (n + 1) (st.step ⟨rs, v, p⟩).1 E := by
  have sup := supply_same st ⟨rs, v, p⟩
  have ES : Hid (st.step ⟨rs, v, p⟩ = (st.supply ⟨rs, v, p⟩, ⟨1, 0, 0, 0⟩)) := by
    unfold Hid St.step
    rw [if_neg (by rw [hdn]; decide), if_neg (by show ¬ rs = true; rw [hrs]; decide), if_neg (by rw [sup.2.2.2.1]; omega), if_pos (by rw [sup.2.2.2.2.1]; omega)]
  have hfr := hr.fresh
  have hmf : ∀ (fn : Fn) (first cap : Array Value) (w : World), (Instr.makeFunc fn first cap).run Tryz.prog w = .ok (.func fn first cap) w := fun _ _ _ _ => rfl
  obtain ⟨sa, sd, sl, sb⟩ := sense_supply st rs v p
  have HZ : Hid (XOk (n + 1) (st.supply ⟨rs, v, p⟩) ex) := (h.supply ⟨rs, v, p⟩).more (Nat.le_succ n)
  rw [ES.out]
  have HD : Hid _ := sd.trans hdn
  have HL : Hid _ := sl.trans hl
  have HB : Hid _ := sb.trans hbk
  subst hrs
  have SA : Hid _ := sa
  clear sd sl sb sa hdn ES sup hl hbk
  go_enter_defers Tryz.func58, Tryz.ntmps58
  go_wp2_with fail
  refine (xsense_any (((hr.alloc _).alloc _).alloc _) v).mono ?_
  rintro e w1 ⟨rfl, r1, k1⟩
  have V1 : Vars w w1 l.g false v p := (Vars.start w l.g false v p).kept k1 (hfr _ (Nat.le_refl _)) (hfr _ (by omega)) (hfr _ (by omega))
  have K1 : Kept l.own w w1 := ((((Kept.refl _ w).alloc _).alloc _).alloc _).trans k1
  clear k1
  have vb := V1.b
  have vi0 := V1.i0
  have vi1 := V1.i1
  have vi2 := V1.i2
  have cd := r1.c_down
  have hgl := r1.g_q
  have e1 : (senseS st v).down = false := HD.out
  rw [e1] at cd
  have cl := r1.c_left
  have e2 : (senseS st v).left = 0 := HL.out
  rw [e2] at cl
  have cb := r1.c_bank
  have e3 : (senseS st v).bank = -1 := HB.out
  rw [e3] at cb
  have cbk := r1.c_bk
  clear e1 e2 e3
  have K9 := K1
  have r9 : XRep l (st.supply ⟨false, v, p⟩) ex w1 := r1.alike SA.out
  have hno : ¬ l.own (w.heap.size + 1 + 1) := hfr _ (by omega)
  obtain ⟨⟨z0, z1, z2, z3⟩, ⟨y0, y1, y2, y3⟩, hz⟩ := V1.s
  clear V1 K1 r1
  go_wp2
  refine leaves_cons (f := 63) (args := #[.pointer (some ⟨w.heap.size, 0, none⟩), .pointer (some ⟨w.heap.size + 1 + 1, 0, none⟩)]) (by simp) (by simp [go_sem]) ?_
  refine (catch_idle _ _ _).mono ?_
  rintro e u' w9 ⟨rfl, rfl, rfl⟩
  refine ⟨.agg #[.int .i64 1, .int .i64 0, .int .u8 0, .int .u8 0], by simp [results, Tryz.results58, go_sem, z0, z1, z2, z3], rfl, ex, ⟨l, Grew.refl l w, ?r, ?k⟩, HZ.out⟩
  case r => repeat (with_reducible first | refine XRep.other ?_ hno _ | exact r9)
  case k =>
    have k2 := K9
    (repeat (with_reducible first | apply Kept.alloc | apply Kept.drewN | apply Kept.drew | apply Kept.nb | apply Kept.g | apply Kept.bs | apply Kept.ck | apply Kept.bk | apply Kept.tm | apply Kept.wa | apply Kept.po | apply Kept.up | apply Kept.re | apply Kept.me | refine Kept.setCell ?_ (Or.inr (Nat.le_refl _)) _ | refine Kept.setCell ?_ (Or.inr (by omega)) _ | exact k1 | exact k2 | exact k3 | exact Kept.refl _ _))

end Go.Proofs.YtikdbpphbdbdnaaGreat

/- The program's board: a step in which the processor runs. -/
namespace Go.Proofs.YtikdbpphbdbdnaaGreat
open Go.RowKit
set_option linter.unusedVariables false

set_option maxRecDepth 100000 in
set_option maxHeartbeats 2000000 in
theorem xStep_runs {n : Nat} (hn : n < 4611686018427387903) {l : XL} {st : St} {ex : Ext} {w : World} (hr : XRep l st ex w) (hi : Inv st) (h : XOk n st ex) (rs : Bool) (v p : Int) (hp0 : 0 ≤ p) (hp1 : p ≤ 255) (hdn : (st.supply ⟨rs, v, p⟩).down = false) (hrs : rs = false) (hl : st.left = 0) (hbk : st.bank = 0 ∨ st.bank = 1) (C : Cy) (T : St) (hS : st.step ⟨rs, v, p⟩ = (T, { C with out := T.out })) (hrun : ∀ W, XRep l (st.supply ⟨rs, v, p⟩) ex W → Calls Tryz.prog 68 #[.pointer (some ⟨l.g, 0, none⟩), .int .u8 p] W fun e w' => e = .returned (.agg #[.int .i64 C.kind, .int .i64 C.addr, .int .u8 C.data, .int .u8 0]) ∧ ∃ F, Went l T F W w' ∧ XOk (n + 1) T F) :
    Calls Tryz.prog 58 #[.pointer (some ⟨l.g, 0, none⟩), .agg #[.bool rs, .int .i64 v, .int .u8 p]] w fun e w' => e = .returned (.agg #[.int .i64 (st.step ⟨rs, v, p⟩).2.kind, .int .i64 (st.step ⟨rs, v, p⟩).2.addr, .int .u8 (st.step ⟨rs, v, p⟩).2.data, .int .u8 (st.step ⟨rs, v, p⟩).2.out]) ∧ ∃ E, Went l (st.step ⟨rs, v, p⟩).1 E w w' ∧ XOk (n + 1) (st.step ⟨rs, v, p⟩).1 E := by
  have hfr := hr.fresh
  have hmf : ∀ (fn : Fn) (first cap : Array Value) (w : World), (Instr.makeFunc fn first cap).run Tryz.prog w = .ok (.func fn first cap) w := fun _ _ _ _ => rfl
  obtain ⟨sa, sd, sl, sb⟩ := sense_supply st rs v p
  rw [hS]
  have HD : Hid _ := sd.trans hdn
  have HL : Hid _ := sl.trans hl
  have HB : Hid ((senseS st v).bank == -1) = false := by
    rw [sb]
    rcases hbk with x | x <;> rw [x] <;> rfl
  have HB2 : (st.bank == -1) = false := by rcases hbk with x | x <;> rw [x] <;> rfl
  have HRN : Hid _ := hrun
  have SB : Hid _ := sb
  subst hrs
  have SA : Hid _ := sa
  clear sd sl sb sa hdn hS hl hbk hrun HB
  go_enter_defers Tryz.func58, Tryz.ntmps58
  go_wp2_with fail
  refine (xsense_any (((hr.alloc _).alloc _).alloc _) v).mono ?_
  rintro e w1 ⟨rfl, r1, k1⟩
  have V1 : Vars w w1 l.g false v p := (Vars.start w l.g false v p).kept k1 (hfr _ (Nat.le_refl _)) (hfr _ (by omega)) (hfr _ (by omega))
  have K1 : Kept l.own w w1 := ((((Kept.refl _ w).alloc _).alloc _).alloc _).trans k1
  clear k1
  have vb := V1.b
  have vi0 := V1.i0
  have vi1 := V1.i1
  have vi2 := V1.i2
  have cd := r1.c_down
  have hgl := r1.g_q
  have e1 : (senseS st v).down = false := HD.out
  rw [e1] at cd
  have cl := r1.c_left
  have e2 : (senseS st v).left = 0 := HL.out
  rw [e2] at cl
  have cb := r1.c_bank
  have e3 : (senseS st v).bank = st.bank := SB.out
  rw [e3] at cb
  have cbk := r1.c_bk
  clear e1 e2 e3
  have HS : Hid (∀ W, Kept (fun _ => False) w1 W → W.cell? ⟨w.heap.size, 0, none⟩ = some (.pointer (some ⟨l.g, 0, none⟩)) ∧ W.cell? ⟨w.heap.size + 1, 2, none⟩ = some (.int .u8 p)) := fun W hW =>
    have q := V1.kept hW (fun x => x) (fun x => x) (fun x => x)
    ⟨q.b, q.i2⟩
  have HR : Hid (∀ W, Kept (fun _ => False) w1 W → Calls Tryz.prog 68 #[.pointer (some ⟨l.g, 0, none⟩), .int .u8 p] W fun e w2 => e = .returned (.agg #[.int .i64 C.kind, .int .i64 C.addr, .int .u8 C.data, .int .u8 0]) ∧ (∃ l2 F, Grew l l2 w ∧ XRep l2 T F w2 ∧ Kept l.own w w2 ∧ XOk (n + 1) T F ∧ ¬ l2.own (w.heap.size + 1 + 1)) ∧ Vars w w2 l.g false v p ∧ Hid (Calls Tryz.prog 65 #[.pointer (some ⟨l.g, 0, none⟩), .agg #[.int .i64 C.kind, .int .i64 C.addr, .int .u8 C.data, .int .u8 0]] w2 fun e w3 => e = .returned (.agg #[.int .i64 C.kind, .int .i64 C.addr, .int .u8 C.data, .int .u8 T.out]) ∧ Kept (fun _ => False) w2 w3)) := fun W hW => by
    have rW : XRep l (st.supply ⟨false, v, p⟩) ex W := (r1.alike SA.out).kept hW (fun _ _ x => x)
    have VW := V1.kept hW (fun x => x) (fun x => x) (fun x => x)
    have KW : Kept l.own w W := K1.trans (hW.wide (fun _ x => x.elim))
    refine (HRN.out W rW).mono fun e w2 ⟨q1, F, ⟨l2, g2, r2, k2'⟩, q3⟩ => ⟨q1, ⟨l2, F, g2.later KW.size, r2, KW.trans k2', q3, g2.out hr (by omega) VW.s.2.2⟩, VW.kept k2' (hfr _ (Nat.le_refl _)) (hfr _ (by omega)) (hfr _ (by omega)), ?_⟩
    have q := xshow_any r2 C.kind C.addr C.data 0
    rw [g2.g] at q
    exact q
  clear HRN
  go_wp2
  go_region_held3 (fun W => W.cell? ⟨w.heap.size, 0, none⟩ = some (.pointer (some ⟨l.g, 0, none⟩)) ∧ W.cell? ⟨w.heap.size + 1, 2, none⟩ = some (.int .u8 p)) (first | (exact ⟨V3.b, V3.i2⟩) | (exact ⟨V2.b, V2.i2⟩) | (refine ⟨?_, ?_⟩ <;> (repeat rw [World.cell?_setCell_other _ _ _ _ (by intro h; simp only [Addr.mk.injEq] at h; omega)]) <;> first | exact V3.b | exact V3.i2) | (apply HS.out; (repeat (with_reducible first | apply Kept.alloc | apply Kept.drewN | apply Kept.drew | apply Kept.nb | apply Kept.g | apply Kept.bs | apply Kept.ck | apply Kept.bk | apply Kept.tm | apply Kept.wa | apply Kept.po | apply Kept.up | apply Kept.re | apply Kept.me | refine Kept.setCell ?_ (Or.inr (Nat.le_refl _)) _ | refine Kept.setCell ?_ (Or.inr (by omega)) _ | exact k1 | exact k2 | exact k3 | exact Kept.refl _ _)); done) | go_keep) (first | (go_at_call 68; refine (HR.out _ (by (repeat (with_reducible first | apply Kept.alloc | apply Kept.drewN | apply Kept.drew | apply Kept.nb | apply Kept.g | apply Kept.bs | apply Kept.ck | apply Kept.bk | apply Kept.tm | apply Kept.wa | apply Kept.po | apply Kept.up | apply Kept.re | apply Kept.me | refine Kept.setCell ?_ (Or.inr (Nat.le_refl _)) _ | refine Kept.setCell ?_ (Or.inr (by omega)) _ | exact k1 | exact k2 | exact k3 | exact Kept.refl _ _)))).mono ?_; rintro e w2 ⟨rfl, hfin, V2, hshow⟩) | (go_at_call 65; refine Calls.mono hshow.out ?_; rintro e w3 ⟨rfl, k3⟩; have V3 := V2.kept k3 (fun x => x) (fun x => x) (fun x => x); obtain ⟨⟨z0, z1, z2, z3⟩, ⟨y0, y1, y2, y3⟩, hz⟩ := V3.s))
  all_goals
    go_wp2
    refine leaves_cons (f := 63) (args := #[.pointer (some ⟨w.heap.size, 0, none⟩), .pointer (some ⟨w.heap.size + 1 + 1, 0, none⟩)]) (by simp) (by simp [go_sem]) ?_
    refine (catch_idle _ _ _).mono ?_
    rintro e u' w9 ⟨rfl, rfl, rfl⟩
    obtain ⟨l2, F, G9, r9, K9, HZ, hno⟩ := hfin
    have r8 : XRep l2 T F w3 := r9.kept k3 (fun _ _ x => x)
    have K8 : Kept l.own w w3 := K9.trans (k3.wide (fun _ x => x.elim))
    refine ⟨.agg #[.int .i64 C.kind, .int .i64 C.addr, .int .u8 C.data, .int .u8 T.out], by simp [results, Tryz.results58, go_sem, z0, z1, z2, z3], rfl, F, ⟨l2, G9, ?r, ?k⟩, HZ⟩
    case r => repeat (with_reducible first | refine XRep.other ?_ hno _ | exact r8)
    case k =>
      have k2 := K8
      clear K9 K8 r9 r8
      (repeat (with_reducible first | apply Kept.alloc | apply Kept.drewN | apply Kept.drew | apply Kept.nb | apply Kept.g | apply Kept.bs | apply Kept.ck | apply Kept.bk | apply Kept.tm | apply Kept.wa | apply Kept.po | apply Kept.up | apply Kept.re | apply Kept.me | refine Kept.setCell ?_ (Or.inr (Nat.le_refl _)) _ | refine Kept.setCell ?_ (Or.inr (by omega)) _ | exact k1 | exact k2 | exact k3 | exact Kept.refl _ _))

end Go.Proofs.YtikdbpphbdbdnaaGreat

/- The program's board: a step in which the processor falls: the trap is caught. -/
namespace Go.Proofs.YtikdbpphbdbdnaaGreat
open Go.RowKit
set_option linter.unusedVariables false

set_option maxRecDepth 100000 in
set_option maxHeartbeats 2000000 in
theorem xStep_trap {n : Nat} (hn : n < 4611686018427387903) {l : XL} {st : St} {ex : Ext} {w : World} (hr : XRep l st ex w) (hi : Inv st) (h : XOk n st ex) (rs : Bool) (v p : Int) (hp0 : 0 ≤ p) (hp1 : p ≤ 255) (hdn : (st.supply ⟨rs, v, p⟩).down = false) (hrs : rs = false) (hl : st.left = 0) (hbk : st.bank = 0 ∨ st.bank = 1) (C : Cy) (T : St) (hS : st.step ⟨rs, v, p⟩ = (T, { C with out := T.out })) (hrun : ∀ W, XRep l (st.supply ⟨rs, v, p⟩) ex W → Calls Tryz.prog 68 #[.pointer (some ⟨l.g, 0, none⟩), .int .u8 p] W fun e w' => e = .panicked [{ v := .iface 150 (.agg #[.int .i64 C.kind, .int .i64 C.addr, .int .u8 C.data, .int .u8 0]), recovered := false }] ∧ ∃ S F, T = S.reset 4 ∧ Went l S F W w' ∧ (S.bank = 0 ∨ S.bank = 1) ∧ Clk (n + 1) S F ∧ DsOk F.due) :
    Calls Tryz.prog 58 #[.pointer (some ⟨l.g, 0, none⟩), .agg #[.bool rs, .int .i64 v, .int .u8 p]] w fun e w' => e = .returned (.agg #[.int .i64 (st.step ⟨rs, v, p⟩).2.kind, .int .i64 (st.step ⟨rs, v, p⟩).2.addr, .int .u8 (st.step ⟨rs, v, p⟩).2.data, .int .u8 (st.step ⟨rs, v, p⟩).2.out]) ∧ ∃ E, Went l (st.step ⟨rs, v, p⟩).1 E w w' ∧ XOk (n + 1) (st.step ⟨rs, v, p⟩).1 E := by
  have hfr := hr.fresh
  have hmf : ∀ (fn : Fn) (first cap : Array Value) (w : World), (Instr.makeFunc fn first cap).run Tryz.prog w = .ok (.func fn first cap) w := fun _ _ _ _ => rfl
  obtain ⟨sa, sd, sl, sb⟩ := sense_supply st rs v p
  rw [hS]
  have HD : Hid _ := sd.trans hdn
  have HL : Hid _ := sl.trans hl
  have HB : Hid ((senseS st v).bank == -1) = false := by
    rw [sb]
    rcases hbk with x | x <;> rw [x] <;> rfl
  have HB2 : (st.bank == -1) = false := by rcases hbk with x | x <;> rw [x] <;> rfl
  have HRN : Hid _ := hrun
  have SB : Hid _ := sb
  subst hrs
  have SA : Hid _ := sa
  clear sd sl sb sa hdn hS hl hbk hrun HB
  go_enter_defers Tryz.func58, Tryz.ntmps58
  go_wp2_with fail
  refine (xsense_any (((hr.alloc _).alloc _).alloc _) v).mono ?_
  rintro e w1 ⟨rfl, r1, k1⟩
  have V1 : Vars w w1 l.g false v p := (Vars.start w l.g false v p).kept k1 (hfr _ (Nat.le_refl _)) (hfr _ (by omega)) (hfr _ (by omega))
  have K1 : Kept l.own w w1 := ((((Kept.refl _ w).alloc _).alloc _).alloc _).trans k1
  clear k1
  have vb := V1.b
  have vi0 := V1.i0
  have vi1 := V1.i1
  have vi2 := V1.i2
  have cd := r1.c_down
  have hgl := r1.g_q
  have e1 : (senseS st v).down = false := HD.out
  rw [e1] at cd
  have cl := r1.c_left
  have e2 : (senseS st v).left = 0 := HL.out
  rw [e2] at cl
  have cb := r1.c_bank
  have e3 : (senseS st v).bank = st.bank := SB.out
  rw [e3] at cb
  have cbk := r1.c_bk
  clear e1 e2 e3
  have HR : Hid (Calls Tryz.prog 68 #[.pointer (some ⟨l.g, 0, none⟩), .int .u8 p] w1.drew fun e w2 => e = .panicked [{ v := .iface 150 (.agg #[.int .i64 C.kind, .int .i64 C.addr, .int .u8 C.data, .int .u8 0]), recovered := false }] ∧ (∃ S l2 F, T = S.reset 4 ∧ l2.g = l.g ∧ Grew l l2 w ∧ XRep l2 S F w2 ∧ Kept l.own w w2 ∧ (S.bank = 0 ∨ S.bank = 1) ∧ XOk (n + 1) (S.reset 4) F ∧ ¬ l2.own w.heap.size ∧ ¬ l2.own (w.heap.size + 1 + 1)) ∧ Vars w w2 l.g false v p) := by
    have hW : Kept (fun _ => False) w1 w1.drew := (Kept.refl _ _).drew
    have rW : XRep l (st.supply ⟨false, v, p⟩) ex w1.drew := (r1.alike SA.out).kept hW (fun _ _ x => x)
    have VW := V1.kept hW (fun x => x) (fun x => x) (fun x => x)
    have KW : Kept l.own w w1.drew := K1.trans (hW.wide (fun _ x => x.elim))
    refine (HRN.out _ rW).mono fun e w2 ⟨q1, S, F, q2, ⟨l2, g2, r2, k2'⟩, q3, q4, q5⟩ => ⟨q1, ⟨S, l2, F, q2, g2.g, g2.later KW.size, r2, KW.trans k2', q3, XOk.reset q4 q5 4, g2.out hr (Nat.le_refl _) (Nat.lt_of_le_of_lt (by omega) VW.s.2.2), g2.out hr (by omega) VW.s.2.2⟩, VW.kept k2' (hfr _ (Nat.le_refl _)) (hfr _ (by omega)) (hfr _ (by omega))⟩
  have HX : Hid (∀ (tm : Array Value) (w2 : World) (a : Act), a = { tmps := tm, defers := [{ target := .fn (.func 63) #[.pointer (some ⟨w.heap.size, 0, none⟩), .pointer (some ⟨w.heap.size + 1 + 1, 0, none⟩)], args := #[] }] } → tm[4]? = some (.pointer (some ⟨w.heap.size + 1 + 1, 0, none⟩)) → (∃ S l2 F, T = S.reset 4 ∧ l2.g = l.g ∧ Grew l l2 w ∧ XRep l2 S F w2 ∧ Kept l.own w w2 ∧ (S.bank = 0 ∨ S.bank = 1) ∧ XOk (n + 1) (S.reset 4) F ∧ ¬ l2.own w.heap.size ∧ ¬ l2.own (w.heap.size + 1 + 1)) → Vars w w2 l.g false v p → bodyPostD Tryz.prog Tryz.f58 (fun e w' => e = .returned (.agg #[.int .i64 C.kind, .int .i64 C.addr, .int .u8 C.data, .int .u8 T.out]) ∧ ∃ E, Went l T E w w' ∧ XOk (n + 1) T E) (.panic [{ v := .iface 150 (.agg #[.int .i64 C.kind, .int .i64 C.addr, .int .u8 C.data, .int .u8 0]), recovered := false }]) a w2) := by
    rintro tm w2 a rfl ht ⟨S, l2, F, hT, hg, G9, r9, K9, hbS, HZ, hn0, hn2⟩ V2
    obtain ⟨⟨z0, z1, z2, z3⟩, ⟨y0, y1, y2, y3⟩, hz⟩ := V2.s
    subst hT
    refine leaves_cons (f := 63) (args := #[.pointer (some ⟨w.heap.size, 0, none⟩), .pointer (some ⟨w.heap.size + 1 + 1, 0, none⟩)]) (by simp) (by simp [go_sem]) ?_
    refine (catch_trap r9 hbS w.heap.size (w.heap.size + 1 + 1) hn0 hn2 (by rw [hg]; exact V2.b) 0 0 0 0 z0 z1 z2 z3 y0 y1 y2 y3 C.kind C.addr C.data).mono ?_
    rintro e u' w9 ⟨rfl, rfl, r8, k8, q0, q1, q2, q3⟩
    rw [← reset_out S 4] at q3
    refine ⟨.agg #[.int .i64 C.kind, .int .i64 C.addr, .int .u8 C.data, .int .u8 (S.reset 4).out], by simp [results, Tryz.results58, go_sem, ht, q0, q1, q2, q3], rfl, F, ⟨l2, G9, r8, ?_⟩, HZ⟩
    have hs := K9.size
    refine ⟨k8.os.trans K9.os, k8.tape.trans K9.tape, k8.output.trans K9.output, Nat.le_trans K9.size k8.size, fun b hb hS => ?_⟩
    rw [← K9.block b hb hS]
    refine k8.block b (by omega) ?_
    rintro (x | x)
    · rcases G9.own x with y | y
      · exact hS y
      · omega
    · omega
  clear HRN
  go_wp2
  refine wp_region_any (by kernel_rfl) ?_
  (try (change wpAny _ _ _ _ _ _ _ (World.drew _)))
  refine wpAny_ready (rs := [0, 1, 2]) (by kernel_rfl) (by simp) ?_
  refine AllReady.cons rfl (fun K hK => ?_) ?_
  · go_simp
    (refine hK _ _ ?_; clear hK K)
    refine wpAny_ready (rs := [1, 2]) (by kernel_rfl) (by simp) ?_
    refine AllReady.cons rfl (fun K hK => ?_) ?_
    · go_simp
      (refine hK _ _ ?_; clear hK K)
      refine wpAny_ready (rs := [2]) (by kernel_rfl) (by simp) ?_
      refine AllReady.cons rfl (fun K hK => ?_) ?_
      · go_simp
        (refine hK _ _ ?_; clear hK K)
        refine wpAny_ready (rs := [3]) (by kernel_rfl) (by simp) ?_
        refine AllReady.cons rfl (fun K hK => ?_) ?_
        · go_simp
          (refine hK _ _ ?_; clear hK K)
          refine wpAny_ready (rs := [4]) (by kernel_rfl) (by simp) ?_
          refine AllReady.cons rfl (fun K hK => ?_) ?_
          · go_simp
            go_wp2_with (go_at_call 68; refine Calls.mono HR.out ?_; rintro e w2 ⟨rfl, hfin, V2⟩)
            exact HX.out _ _ _ rfl rfl hfin V2
          exact AllReady.nil
        exact AllReady.nil
      exact AllReady.nil
    refine AllReady.cons rfl (fun K hK => ?_) ?_
    · go_simp
      (refine hK _ _ ?_; clear hK K)
      refine wpAny_ready (rs := [1, 3]) (by kernel_rfl) (by simp) ?_
      refine AllReady.cons rfl (fun K hK => ?_) ?_
      · go_simp
        (refine hK _ _ ?_; clear hK K)
        refine wpAny_ready (rs := [3]) (by kernel_rfl) (by simp) ?_
        refine AllReady.cons rfl (fun K hK => ?_) ?_
        · go_simp
          (refine hK _ _ ?_; clear hK K)
          refine wpAny_ready (rs := [4]) (by kernel_rfl) (by simp) ?_
          refine AllReady.cons rfl (fun K hK => ?_) ?_
          · go_simp
            go_wp2_with (go_at_call 68; refine Calls.mono HR.out ?_; rintro e w2 ⟨rfl, hfin, V2⟩)
            exact HX.out _ _ _ rfl rfl hfin V2
          exact AllReady.nil
        exact AllReady.nil
      refine AllReady.cons rfl (fun K hK => ?_) ?_
      · go_simp
        (refine hK _ _ ?_; clear hK K)
        refine wpAny_ready (rs := [1]) (by kernel_rfl) (by simp) ?_
        refine AllReady.cons rfl (fun K hK => ?_) ?_
        · go_simp
          (refine hK _ _ ?_; clear hK K)
          refine wpAny_ready (rs := [4]) (by kernel_rfl) (by simp) ?_
          refine AllReady.cons rfl (fun K hK => ?_) ?_
          · go_simp
            go_wp2_with (go_at_call 68; refine Calls.mono HR.out ?_; rintro e w2 ⟨rfl, hfin, V2⟩)
            exact HX.out _ _ _ rfl rfl hfin V2
          exact AllReady.nil
        exact AllReady.nil
      exact AllReady.nil
    exact AllReady.nil
  refine AllReady.cons rfl (fun K hK => ?_) ?_
  · go_simp
    (refine hK _ _ ?_; clear hK K)
    refine wpAny_ready (rs := [0, 2]) (by kernel_rfl) (by simp) ?_
    refine AllReady.cons rfl (fun K hK => ?_) ?_
    · go_simp
      (refine hK _ _ ?_; clear hK K)
      refine wpAny_ready (rs := [2]) (by kernel_rfl) (by simp) ?_
      refine AllReady.cons rfl (fun K hK => ?_) ?_
      · go_simp
        (refine hK _ _ ?_; clear hK K)
        refine wpAny_ready (rs := [3]) (by kernel_rfl) (by simp) ?_
        refine AllReady.cons rfl (fun K hK => ?_) ?_
        · go_simp
          (refine hK _ _ ?_; clear hK K)
          refine wpAny_ready (rs := [4]) (by kernel_rfl) (by simp) ?_
          refine AllReady.cons rfl (fun K hK => ?_) ?_
          · go_simp
            go_wp2_with (go_at_call 68; refine Calls.mono HR.out ?_; rintro e w2 ⟨rfl, hfin, V2⟩)
            exact HX.out _ _ _ rfl rfl hfin V2
          exact AllReady.nil
        exact AllReady.nil
      exact AllReady.nil
    refine AllReady.cons rfl (fun K hK => ?_) ?_
    · go_simp
      (refine hK _ _ ?_; clear hK K)
      refine wpAny_ready (rs := [0, 3]) (by kernel_rfl) (by simp) ?_
      refine AllReady.cons rfl (fun K hK => ?_) ?_
      · go_simp
        (refine hK _ _ ?_; clear hK K)
        refine wpAny_ready (rs := [3]) (by kernel_rfl) (by simp) ?_
        refine AllReady.cons rfl (fun K hK => ?_) ?_
        · go_simp
          (refine hK _ _ ?_; clear hK K)
          refine wpAny_ready (rs := [4]) (by kernel_rfl) (by simp) ?_
          refine AllReady.cons rfl (fun K hK => ?_) ?_
          · go_simp
            go_wp2_with (go_at_call 68; refine Calls.mono HR.out ?_; rintro e w2 ⟨rfl, hfin, V2⟩)
            exact HX.out _ _ _ rfl rfl hfin V2
          exact AllReady.nil
        exact AllReady.nil
      refine AllReady.cons rfl (fun K hK => ?_) ?_
      · go_simp
        (refine hK _ _ ?_; clear hK K)
        refine wpAny_ready (rs := [0, 4]) (by kernel_rfl) (by simp) ?_
        refine AllReady.cons rfl (fun K hK => ?_) ?_
        · go_simp
          (refine hK _ _ ?_; clear hK K)
          refine wpAny_ready (rs := [4]) (by kernel_rfl) (by simp) ?_
          refine AllReady.cons rfl (fun K hK => ?_) ?_
          · go_simp
            go_wp2_with (go_at_call 68; refine Calls.mono HR.out ?_; rintro e w2 ⟨rfl, hfin, V2⟩)
            exact HX.out _ _ _ rfl rfl hfin V2
          exact AllReady.nil
        refine AllReady.cons rfl (fun K hK => ?_) ?_
        · go_simp
          go_wp2_with (go_at_call 68; refine Calls.mono HR.out ?_; rintro e w2 ⟨rfl, hfin, V2⟩)
          exact HX.out _ _ _ rfl rfl hfin V2
        exact AllReady.nil
      exact AllReady.nil
    exact AllReady.nil
  refine AllReady.cons rfl (fun K hK => ?_) ?_
  · go_simp
    (refine hK _ _ ?_; clear hK K)
    refine wpAny_ready (rs := [0, 1, 3]) (by kernel_rfl) (by simp) ?_
    refine AllReady.cons rfl (fun K hK => ?_) ?_
    · go_simp
      (refine hK _ _ ?_; clear hK K)
      refine wpAny_ready (rs := [1, 3]) (by kernel_rfl) (by simp) ?_
      refine AllReady.cons rfl (fun K hK => ?_) ?_
      · go_simp
        (refine hK _ _ ?_; clear hK K)
        refine wpAny_ready (rs := [3]) (by kernel_rfl) (by simp) ?_
        refine AllReady.cons rfl (fun K hK => ?_) ?_
        · go_simp
          (refine hK _ _ ?_; clear hK K)
          refine wpAny_ready (rs := [4]) (by kernel_rfl) (by simp) ?_
          refine AllReady.cons rfl (fun K hK => ?_) ?_
          · go_simp
            go_wp2_with (go_at_call 68; refine Calls.mono HR.out ?_; rintro e w2 ⟨rfl, hfin, V2⟩)
            exact HX.out _ _ _ rfl rfl hfin V2
          exact AllReady.nil
        exact AllReady.nil
      refine AllReady.cons rfl (fun K hK => ?_) ?_
      · go_simp
        (refine hK _ _ ?_; clear hK K)
        refine wpAny_ready (rs := [1]) (by kernel_rfl) (by simp) ?_
        refine AllReady.cons rfl (fun K hK => ?_) ?_
        · go_simp
          (refine hK _ _ ?_; clear hK K)
          refine wpAny_ready (rs := [4]) (by kernel_rfl) (by simp) ?_
          refine AllReady.cons rfl (fun K hK => ?_) ?_
          · go_simp
            go_wp2_with (go_at_call 68; refine Calls.mono HR.out ?_; rintro e w2 ⟨rfl, hfin, V2⟩)
            exact HX.out _ _ _ rfl rfl hfin V2
          exact AllReady.nil
        exact AllReady.nil
      exact AllReady.nil
    refine AllReady.cons rfl (fun K hK => ?_) ?_
    · go_simp
      (refine hK _ _ ?_; clear hK K)
      refine wpAny_ready (rs := [0, 3]) (by kernel_rfl) (by simp) ?_
      refine AllReady.cons rfl (fun K hK => ?_) ?_
      · go_simp
        (refine hK _ _ ?_; clear hK K)
        refine wpAny_ready (rs := [3]) (by kernel_rfl) (by simp) ?_
        refine AllReady.cons rfl (fun K hK => ?_) ?_
        · go_simp
          (refine hK _ _ ?_; clear hK K)
          refine wpAny_ready (rs := [4]) (by kernel_rfl) (by simp) ?_
          refine AllReady.cons rfl (fun K hK => ?_) ?_
          · go_simp
            go_wp2_with (go_at_call 68; refine Calls.mono HR.out ?_; rintro e w2 ⟨rfl, hfin, V2⟩)
            exact HX.out _ _ _ rfl rfl hfin V2
          exact AllReady.nil
        exact AllReady.nil
      refine AllReady.cons rfl (fun K hK => ?_) ?_
      · go_simp
        (refine hK _ _ ?_; clear hK K)
        refine wpAny_ready (rs := [0, 4]) (by kernel_rfl) (by simp) ?_
        refine AllReady.cons rfl (fun K hK => ?_) ?_
        · go_simp
          (refine hK _ _ ?_; clear hK K)
          refine wpAny_ready (rs := [4]) (by kernel_rfl) (by simp) ?_
          refine AllReady.cons rfl (fun K hK => ?_) ?_
          · go_simp
            go_wp2_with (go_at_call 68; refine Calls.mono HR.out ?_; rintro e w2 ⟨rfl, hfin, V2⟩)
            exact HX.out _ _ _ rfl rfl hfin V2
          exact AllReady.nil
        refine AllReady.cons rfl (fun K hK => ?_) ?_
        · go_simp
          go_wp2_with (go_at_call 68; refine Calls.mono HR.out ?_; rintro e w2 ⟨rfl, hfin, V2⟩)
          exact HX.out _ _ _ rfl rfl hfin V2
        exact AllReady.nil
      exact AllReady.nil
    refine AllReady.cons rfl (fun K hK => ?_) ?_
    · go_simp
      (refine hK _ _ ?_; clear hK K)
      refine wpAny_ready (rs := [0, 1]) (by kernel_rfl) (by simp) ?_
      refine AllReady.cons rfl (fun K hK => ?_) ?_
      · go_simp
        (refine hK _ _ ?_; clear hK K)
        refine wpAny_ready (rs := [1]) (by kernel_rfl) (by simp) ?_
        refine AllReady.cons rfl (fun K hK => ?_) ?_
        · go_simp
          (refine hK _ _ ?_; clear hK K)
          refine wpAny_ready (rs := [4]) (by kernel_rfl) (by simp) ?_
          refine AllReady.cons rfl (fun K hK => ?_) ?_
          · go_simp
            go_wp2_with (go_at_call 68; refine Calls.mono HR.out ?_; rintro e w2 ⟨rfl, hfin, V2⟩)
            exact HX.out _ _ _ rfl rfl hfin V2
          exact AllReady.nil
        exact AllReady.nil
      refine AllReady.cons rfl (fun K hK => ?_) ?_
      · go_simp
        (refine hK _ _ ?_; clear hK K)
        refine wpAny_ready (rs := [0, 4]) (by kernel_rfl) (by simp) ?_
        refine AllReady.cons rfl (fun K hK => ?_) ?_
        · go_simp
          (refine hK _ _ ?_; clear hK K)
          refine wpAny_ready (rs := [4]) (by kernel_rfl) (by simp) ?_
          refine AllReady.cons rfl (fun K hK => ?_) ?_
          · go_simp
            go_wp2_with (go_at_call 68; refine Calls.mono HR.out ?_; rintro e w2 ⟨rfl, hfin, V2⟩)
            exact HX.out _ _ _ rfl rfl hfin V2
          exact AllReady.nil
        refine AllReady.cons rfl (fun K hK => ?_) ?_
        · go_simp
          go_wp2_with (go_at_call 68; refine Calls.mono HR.out ?_; rintro e w2 ⟨rfl, hfin, V2⟩)
          exact HX.out _ _ _ rfl rfl hfin V2
        exact AllReady.nil
      exact AllReady.nil
    exact AllReady.nil
  exact AllReady.nil

end Go.Proofs.YtikdbpphbdbdnaaGreat

/- The program's board: a step, whatever the input. -/
namespace Go.Proofs.YtikdbpphbdbdnaaGreat
open Go.RowKit
set_option linter.unusedVariables false

theorem step_runs {st : St} {i : In} (h1 : (st.supply i).down = false) (h2 : i.reset = false) (h3 : st.left = 0) (h4 : 0 ≤ st.bank) : st.step i = (st.supply i).runs := by
  have sup := supply_same st i
  unfold St.step
  rw [if_neg (by rw [h1]; decide), if_neg (by rw [h2]; decide), if_neg (by rw [sup.2.2.2.1]; omega), if_neg (by rw [sup.2.2.2.2.1]; omega)]

theorem xStep_any {n : Nat} (hn : n < 4611686018427387903) {l : XL} {st : St} {ex : Ext} {w : World} (hr : XRep l st ex w) (hi : Inv st) (h : XOk n st ex) (rs : Bool) (v p : Int) (hp0 : 0 ≤ p) (hp1 : p ≤ 255) :
    Calls Tryz.prog 58 #[.pointer (some ⟨l.g, 0, none⟩), .agg #[.bool rs, .int .i64 v, .int .u8 p]] w fun e w' => e = .returned (.agg #[.int .i64 (st.step ⟨rs, v, p⟩).2.kind, .int .i64 (st.step ⟨rs, v, p⟩).2.addr, .int .u8 (st.step ⟨rs, v, p⟩).2.data, .int .u8 (st.step ⟨rs, v, p⟩).2.out]) ∧ ∃ E, Went l (st.step ⟨rs, v, p⟩).1 E w w' ∧ XOk (n + 1) (st.step ⟨rs, v, p⟩).1 E := by
  cases hdn : (st.supply ⟨rs, v, p⟩).down with
  | true => exact xStep_down hn hr hi h rs v p hp0 hp1 hdn
  | false =>
    cases hrs : rs with
    | true => subst hrs; exact xStep_pin hn hr hi h true v p hp0 hp1 hdn rfl
    | false =>
      subst hrs
      by_cases hl : 0 < st.left
      · by_cases hl1 : st.left - 1 = 0
        · exact xStep_boot hn hr hi h false v p hp0 hp1 hdn rfl (by omega)
        · exact xStep_more hn hr hi h false v p hp0 hp1 hdn rfl hl hl1
      · have hl0 : st.left = 0 := by have := hi.left; omega
        have hbr := hi.bank
        by_cases hbk : st.bank = -1
        · exact xStep_dead hn hr hi h false v p hp0 hp1 hdn rfl hl0 hbk
        · have hb : st.bank = 0 ∨ st.bank = 1 := by omega
          have sup := supply_same st ⟨false, v, p⟩
          have hs := step_runs (i := ⟨false, v, p⟩) hdn rfl hl0 (by omega)
          have hi1 : Inv (st.supply ⟨false, v, p⟩) := hi.supply _ ⟨hp0, hp1⟩
          have hR0 := (h.supply ⟨false, v, p⟩).run (by rw [sup.2.2.2.1]; exact hl0) (by rw [sup.2.2.2.2.1]; omega)
          have hinp := sup.2.2.2.2.2.2.2.2.2
          have hlu : (st.supply ⟨false, v, p⟩).left = 0 := by rw [sup.2.2.2.1]; exact hl0
          have hbu : (st.supply ⟨false, v, p⟩).bank = 0 ∨ (st.supply ⟨false, v, p⟩).bank = 1 := by rw [sup.2.2.2.2.1]; exact hb
          have hRN := @xStep_runs n hn l st ex w hr hi h false v p hp0 hp1 hdn rfl hl0 hb
          have hTR := @xStep_trap n hn l st ex w hr hi h false v p hp0 hp1 hdn rfl hl0 hb
          rw [hs] at hRN hTR ⊢
          generalize st.supply ⟨false, v, p⟩ = u at *
          have hi2 : Inv ({ u with rst := 0 } : St) := { hi1 with }
          have hR : Rel n ({ u with rst := 0 } : St) ex := ⟨hR0.clk.as rfl rfl rfl rfl rfl rfl, hR0.due, hR0.ph.as rfl rfl rfl rfl rfl rfl rfl rfl, hR0.early⟩
          have hXR : ∀ W, XRep l u ex W → XRep l ({ u with rst := 0 } : St) ex W := fun W hw => hw.ghost u.op u.opd u.phase u.count u.age u.inp 0
          have hb2 : ({ u with rst := 0 } : St).bank = 0 ∨ ({ u with rst := 0 } : St).bank = 1 := hbu
          have hbw := works_bank ({ u with rst := 0 } : St)
          have hlw := works_calm ({ u with rst := 0 } : St)
          have hiw := hi2.works (by rcases hb2 with x | x <;> rw [x] <;> decide)
          by_cases h0 : ({ u with rst := 0 } : St).works.1.rst = 0
          · refine hRN ({ u with rst := 0 } : St).works.2 ({ u with rst := 0 } : St).works.1.ticks.ages (by unfold St.runs; simp only [if_pos h0]) fun W hW => ?_
            exact xrun_norm hn (hXR W hW) hi2 hR hb2 hlu rfl p hinp _ _ rfl h0 hiw (by rw [hbw]; exact hb2) ((hlw h0).trans hlu)
          · by_cases h3 : ({ u with rst := 0 } : St).works.1.rst = 3
            · refine hRN ({ u with rst := 0 } : St).works.2 ({ u with rst := 0 } : St).works.1 (by unfold St.runs; simp only [if_neg h0]) fun W hW => ?_
              refine (xrun_soon hn (hXR W hW) hi2 hR hb2 hlu rfl p hinp _ rfl h3).mono fun e w' ⟨q1, S, F, q2, q3, q4⟩ => ?_
              rw [q2]
              exact ⟨q1, F, q3, q4⟩
            · refine hTR ({ u with rst := 0 } : St).works.2 ({ u with rst := 0 } : St).works.1 (by unfold St.runs; simp only [if_neg h0]) fun W hW => ?_
              refine (xrun_trap hn (hXR W hW) hi2 hR hb2 hlu rfl p hinp _ rfl h0 h3).mono fun e w' ⟨q1, S, F, q2, q3, q4, q5, q6⟩ => ?_
              exact ⟨q1, S, F, q2, q3, by rw [q4]; exact hb2, q5.more (Nat.le_succ n), q6⟩

end Go.Proofs.YtikdbpphbdbdnaaGreat

/- The program's board: Step and Tell, as they are called. -/
namespace Go.Proofs.YtikdbpphbdbdnaaGreat
open Go.RowKit
set_option linter.unusedVariables false

set_option maxRecDepth 100000 in
set_option maxHeartbeats 2000000 in
theorem nStep_any {n : Nat} (hn : n < 4611686018427387903) {l : XL} {st : St} {ex : Ext} {w : World} (hr : XRep l st ex w) (hi : Inv st) (h : XOk n st ex) (rs : Bool) (v p : Int) (hp0 : 0 ≤ p) (hp1 : p ≤ 255) :
    Calls Tryz.prog 47 #[.pointer (some ⟨l.nb, 0, none⟩), .agg #[.bool rs, .int .i64 v, .int .u8 p]] w fun e w' => e = .returned (.agg #[.int .i64 (st.step ⟨rs, v, p⟩).2.kind, .int .i64 (st.step ⟨rs, v, p⟩).2.addr, .int .u8 (st.step ⟨rs, v, p⟩).2.data, .int .u8 (st.step ⟨rs, v, p⟩).2.out]) ∧ ∃ E, Went l (st.step ⟨rs, v, p⟩).1 E w w' ∧ XOk (n + 1) (st.step ⟨rs, v, p⟩).1 E := by
  have c0 := hr.c_nb0
  have hfr := hr.fresh
  have hnl : l.nb < w.heap.size := hr.lt (Or.inl ⟨0, by omega, rfl⟩)
  have H : Hid (Calls Tryz.prog 58 #[.pointer (some ⟨l.g, 0, none⟩), .agg #[.bool rs, .int .i64 v, .int .u8 p]] ((w.alloc (.cells #[.bool rs, .int .i64 v, .int .u8 p] 40)).alloc (.cells #[.int .i64 0, .int .i64 0, .int .u8 0, .int .u8 0] 54)).drew fun e w' => e = .returned (.agg #[.int .i64 (st.step ⟨rs, v, p⟩).2.kind, .int .i64 (st.step ⟨rs, v, p⟩).2.addr, .int .u8 (st.step ⟨rs, v, p⟩).2.data, .int .u8 (st.step ⟨rs, v, p⟩).2.out]) ∧ CyAt w' (w.heap.size + 1) 0 0 0 0 ∧ ∃ E l2, Grew l l2 w ∧ XRep l2 (st.step ⟨rs, v, p⟩).1 E w' ∧ Kept l.own w w' ∧ XOk (n + 1) (st.step ⟨rs, v, p⟩).1 E ∧ ¬ l2.own (w.heap.size + 1)) := by
    have k0 : Kept l.own w ((w.alloc (.cells #[.bool rs, .int .i64 v, .int .u8 p] 40)).alloc zc).drew := (((Kept.refl _ _).alloc _).alloc _).drew
    have e0 : ((w.alloc (.cells #[.bool rs, .int .i64 v, .int .u8 p] 40)).alloc zc).drew.heap[w.heap.size + 1]? = some zc := by
      have := zc_new (w.alloc (.cells #[.bool rs, .int .i64 v, .int .u8 p] 40))
      have e2 : (w.alloc (.cells #[.bool rs, .int .i64 v, .int .u8 p] 40)).heap.size = w.heap.size + 1 := by simp
      rw [e2] at this
      exact this
    refine (xStep_any hn ((hr.alloc _).alloc zc).drew hi h rs v p hp0 hp1).mono fun e w' ⟨q1, E, ⟨l2, q2, q3, q4⟩, q5⟩ => ?_
    have hlt := (Array.getElem?_eq_some_iff.1 e0).1
    refine ⟨q1, CyAt.of ((q4.block _ hlt (hfr _ (by omega))).trans e0), E, l2, q2.later k0.size, q3, k0.trans q4, q5, q2.out hr (by omega) hlt⟩
  generalize st.step ⟨rs, v, p⟩ = R at H ⊢
  clear hi h hp0 hp1
  go_enter Tryz.func47, Tryz.ntmps47
  go_wp2
  go_region_with (go_at_call 58; refine Calls.mono H.out ?_; rintro e w1 ⟨rfl, ⟨⟨x0, x1, x2, x3⟩, ⟨y0, y1, y2, y3⟩, hz⟩, E, l2, g2, r2, k2, q5, hno⟩)
  all_goals
    go_wp2
    refine bodyPost_ret (v := .agg #[.int .i64 R.2.kind, .int .i64 R.2.addr, .int .u8 R.2.data, .int .u8 R.2.out]) (by simp [results, Tryz.results47, go_sem, x0, x1, x2, x3]) rfl ⟨rfl, E, ⟨l2, g2, ?r, ?k⟩, q5⟩
    case r => repeat (with_reducible first | refine XRep.other ?_ hno _ | exact r2)
    case k => (repeat (with_reducible first | apply Kept.alloc | apply Kept.drewN | apply Kept.drew | apply Kept.nb | apply Kept.g | apply Kept.bs | apply Kept.ck | apply Kept.bk | apply Kept.tm | apply Kept.wa | apply Kept.po | apply Kept.up | apply Kept.re | apply Kept.me | refine Kept.setCell ?_ (Or.inr (Nat.le_refl _)) _ | refine Kept.setCell ?_ (Or.inr (by omega)) _ | exact k1 | exact k2 | exact k3 | exact Kept.refl _ _))

end Go.Proofs.YtikdbpphbdbdnaaGreat
