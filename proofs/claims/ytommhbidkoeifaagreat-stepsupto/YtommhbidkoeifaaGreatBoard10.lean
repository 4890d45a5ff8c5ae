/- The program's board: a step in which the processor runs. -/
import Derived.Test.YtommhbidkoeifaaGreatBoard9
namespace Go.Proofs.YtommhbidkoeifaaGreat
open Go.RowKit
set_option linter.unusedVariables false

set_option maxRecDepth 100000 in
set_option maxHeartbeats 2000000 in
theorem xStep_runs {n : Nat} (hn : n < 4611686018427387903) {l : XL} {st : St} {ex : Ext} {w : World} (hr : XRep l st ex w) (hi : Inv st) (h : XOk n st ex) (rs : Bool) (v p : Int) (hp0 : 0 ≤ p) (hp1 : p ≤ 255) (hdn : (st.supply ⟨rs, v, p⟩).down = false) (hrs : rs = false) (hl : st.left = 0) (hbk : st.bank = 0 ∨ st.bank = 1) (C : Cy) (T : St) (hS : st.step ⟨rs, v, p⟩ = (T, { C with out := T.out })) (hrun : ∀ W, XRep l (st.supply ⟨rs, v, p⟩) ex W → Calls Tryz.prog 63 #[.pointer (some ⟨l.g, 0, none⟩), .int .u8 p] W fun e w' => e = .returned (.agg #[.int .i64 C.kind, .int .i64 C.addr, .int .u8 C.data, .int .u8 0]) ∧ ∃ F, Went l T F W w' ∧ XOk (n + 1) T F) :
    Calls Tryz.prog 53 #[.pointer (some ⟨l.g, 0, none⟩), .agg #[.bool rs, .int .i64 v, .int .u8 p]] w fun e w' => e = .returned (.agg #[.int .i64 (st.step ⟨rs, v, p⟩).2.kind, .int .i64 (st.step ⟨rs, v, p⟩).2.addr, .int .u8 (st.step ⟨rs, v, p⟩).2.data, .int .u8 (st.step ⟨rs, v, p⟩).2.out]) ∧ ∃ E, Went l (st.step ⟨rs, v, p⟩).1 E w w' ∧ XOk (n + 1) (st.step ⟨rs, v, p⟩).1 E := by
  have hfr := hr.fresh
  have hmf : ∀ (fn : Fn) (first cap : Array Value) (w : World), (Instr.makeFunc fn first cap).run Tryz.prog w = .ok (.func fn first cap) w := fun _ _ _ _ => rfl
  obtain ⟨sa, sd, sl, sb⟩ := sense_supply st rs v p
  rw [hS]
  have HD : Hid _ := sd.trans hdn
  have HL : Hid _ := sl.trans hl
  have HB : Hid ((senseS st v).bank == -1) = false := by
    rw [sb]
    rcases hbk with x | x <;> rw [x] <;> rfl
  have HB2 : (st.bank == -1) = false := by rcases hbk with x | x <;> rw [x] <;> rfl
  have HRN : Hid _ := hrun
  have SB : Hid _ := sb
  subst hrs
  have SA : Hid _ := sa
  clear sd sl sb sa hdn hS hl hbk hrun HB
  go_enter_defers Tryz.func53, Tryz.ntmps53
  go_wp2_with fail
  refine (xsense_any (((hr.alloc _).alloc _).alloc _) v).mono ?_
  rintro e w1 ⟨rfl, r1, k1⟩
  have V1 : Vars w w1 l.g false v p := (Vars.start w l.g false v p).kept k1 (hfr _ (Nat.le_refl _)) (hfr _ (by omega)) (hfr _ (by omega))
  have K1 : Kept l.own w w1 := ((((Kept.refl _ w).alloc _).alloc _).alloc _).trans k1
  clear k1
  have vb := V1.b
  have vi0 := V1.i0
  have vi1 := V1.i1
  have vi2 := V1.i2
  have cd := r1.c_down
  have hgl := r1.g_q
  have e1 : (senseS st v).down = false := HD.out
  rw [e1] at cd
  have cl := r1.c_left
  have e2 : (senseS st v).left = 0 := HL.out
  rw [e2] at cl
  have cb := r1.c_bank
  have e3 : (senseS st v).bank = st.bank := SB.out
  rw [e3] at cb
  have cbk := r1.c_bk
  clear e1 e2 e3
  have HS : Hid (∀ W, Kept (fun _ => False) w1 W → W.cell? ⟨w.heap.size, 0, none⟩ = some (.pointer (some ⟨l.g, 0, none⟩)) ∧ W.cell? ⟨w.heap.size + 1, 2, none⟩ = some (.int .u8 p)) := fun W hW =>
    have q := V1.kept hW (fun x => x) (fun x => x) (fun x => x)
    ⟨q.b, q.i2⟩
  have HR : Hid (∀ W, Kept (fun _ => False) w1 W → Calls Tryz.prog 63 #[.pointer (some ⟨l.g, 0, none⟩), .int .u8 p] W fun e w2 => e = .returned (.agg #[.int .i64 C.kind, .int .i64 C.addr, .int .u8 C.data, .int .u8 0]) ∧ (∃ l2 F, Grew l l2 w ∧ XRep l2 T F w2 ∧ Kept l.own w w2 ∧ XOk (n + 1) T F ∧ ¬ l2.own (w.heap.size + 1 + 1)) ∧ Vars w w2 l.g false v p ∧ Hid (Calls Tryz.prog 60 #[.pointer (some ⟨l.g, 0, none⟩), .agg #[.int .i64 C.kind, .int .i64 C.addr, .int .u8 C.data, .int .u8 0]] w2 fun e w3 => e = .returned (.agg #[.int .i64 C.kind, .int .i64 C.addr, .int .u8 C.data, .int .u8 T.out]) ∧ Kept (fun _ => False) w2 w3)) := fun W hW => by
    have rW : XRep l (st.supply ⟨false, v, p⟩) ex W := (r1.alike SA.out).kept hW (fun _ _ x => x)
    have VW := V1.kept hW (fun x => x) (fun x => x) (fun x => x)
    have KW : Kept l.own w W := K1.trans (hW.wide (fun _ x => x.elim))
    refine (HRN.out W rW).mono fun e w2 ⟨q1, F, ⟨l2, g2, r2, k2'⟩, q3⟩ => ⟨q1, ⟨l2, F, g2.later KW.size, r2, KW.trans k2', q3, g2.out hr (by omega) VW.s.2.2⟩, VW.kept k2' (hfr _ (Nat.le_refl _)) (hfr _ (by omega)) (hfr _ (by omega)), ?_⟩
    have q := xshow_any r2 C.kind C.addr C.data 0
    rw [g2.g] at q
    exact q
  clear HRN
  go_wp2
  go_region_held3 (fun W => W.cell? ⟨w.heap.size, 0, none⟩ = some (.pointer (some ⟨l.g, 0, none⟩)) ∧ W.cell? ⟨w.heap.size + 1, 2, none⟩ = some (.int .u8 p)) (first | (exact ⟨V3.b, V3.i2⟩) | (exact ⟨V2.b, V2.i2⟩) | (refine ⟨?_, ?_⟩ <;> (repeat rw [World.cell?_setCell_other _ _ _ _ (by intro h; simp only [Addr.mk.injEq] at h; omega)]) <;> first | exact V3.b | exact V3.i2) | (apply HS.out; (repeat (with_reducible first | apply Kept.alloc | apply Kept.drewN | apply Kept.drew | apply Kept.nb | apply Kept.g | apply Kept.bs | apply Kept.ck | apply Kept.bk | apply Kept.tm | apply Kept.wa | apply Kept.po | apply Kept.up | apply Kept.re | apply Kept.me | refine Kept.setCell ?_ (Or.inr (Nat.le_refl _)) _ | refine Kept.setCell ?_ (Or.inr (by omega)) _ | exact k1 | exact k2 | exact k3 | exact Kept.refl _ _)); done) | go_keep) (first | (go_at_call 63; refine (HR.out _ (by (repeat (with_reducible first | apply Kept.alloc | apply Kept.drewN | apply Kept.drew | apply Kept.nb | apply Kept.g | apply Kept.bs | apply Kept.ck | apply Kept.bk | apply Kept.tm | apply Kept.wa | apply Kept.po | apply Kept.up | apply Kept.re | apply Kept.me | refine Kept.setCell ?_ (Or.inr (Nat.le_refl _)) _ | refine Kept.setCell ?_ (Or.inr (by omega)) _ | exact k1 | exact k2 | exact k3 | exact Kept.refl _ _)))).mono ?_; rintro e w2 ⟨rfl, hfin, V2, hshow⟩) | (go_at_call 60; refine Calls.mono hshow.out ?_; rintro e w3 ⟨rfl, k3⟩; have V3 := V2.kept k3 (fun x => x) (fun x => x) (fun x => x); obtain ⟨⟨z0, z1, z2, z3⟩, ⟨y0, y1, y2, y3⟩, hz⟩ := V3.s))
  all_goals
    go_wp2
    refine leaves_cons (f := 58) (args := #[.pointer (some ⟨w.heap.size, 0, none⟩), .pointer (some ⟨w.heap.size + 1 + 1, 0, none⟩)]) (by simp) (by simp [go_sem]) ?_
    refine (catch_idle _ _ _).mono ?_
    rintro e u' w9 ⟨rfl, rfl, rfl⟩
    obtain ⟨l2, F, G9, r9, K9, HZ, hno⟩ := hfin
    have r8 : XRep l2 T F w3 := r9.kept k3 (fun _ _ x => x)
    have K8 : Kept l.own w w3 := K9.trans (k3.wide (fun _ x => x.elim))
    refine ⟨.agg #[.int .i64 C.kind, .int .i64 C.addr, .int .u8 C.data, .int .u8 T.out], by simp [results, Tryz.results53, go_sem, z0, z1, z2, z3], rfl, F, ⟨l2, G9, ?r, ?k⟩, HZ⟩
    case r => repeat (with_reducible first | refine XRep.other ?_ hno _ | exact r8)
    case k =>
      have k2 := K8
      clear K9 K8 r9 r8
      (repeat (with_reducible first | apply Kept.alloc | apply Kept.drewN | apply Kept.drew | apply Kept.nb | apply Kept.g | apply Kept.bs | apply Kept.ck | apply Kept.bk | apply Kept.tm | apply Kept.wa | apply Kept.po | apply Kept.up | apply Kept.re | apply Kept.me | refine Kept.setCell ?_ (Or.inr (Nat.le_refl _)) _ | refine Kept.setCell ?_ (Or.inr (by omega)) _ | exact k1 | exact k2 | exact k3 | exact Kept.refl _ _))

end Go.Proofs.YtommhbidkoeifaaGreat
