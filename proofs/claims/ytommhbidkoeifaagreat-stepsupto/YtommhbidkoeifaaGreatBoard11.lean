/- The program's board: a step in which the processor falls: the trap is caught. -/
import Derived.Test.YtommhbidkoeifaaGreatBoard10
namespace Go.Proofs.YtommhbidkoeifaaGreat
open Go.RowKit
set_option linter.unusedVariables false

set_option maxRecDepth 100000 in
set_option maxHeartbeats 2000000 in
theorem xStep_trap {n : Nat} (hn : n < 4611686018427387903) {l : XL} {st : St} {ex : Ext} {w : World} (hr : XRep l st ex w) (hi : Inv st) (h : XOk n st ex) (rs : Bool) (v p : Int) (hp0 : 0 ≤ p) (hp1 : p ≤ 255) (hdn : (st.supply ⟨rs, v, p⟩).down = false) (hrs : rs = false) (hl : st.left = 0) (hbk : st.bank = 0 ∨ st.bank = 1) (C : Cy) (T : St) (hS : st.step ⟨rs, v, p⟩ = (T, { C with out := T.out })) (hrun : ∀ W, XRep l (st.supply ⟨rs, v, p⟩) ex W → Calls Tryz.prog 63 #[.pointer (some ⟨l.g, 0, none⟩), .int .u8 p] W fun e w' => e = .panicked [{ v := .iface 150 (.agg #[.int .i64 C.kind, .int .i64 C.addr, .int .u8 C.data, .int .u8 0]), recovered := false }] ∧ ∃ S F, T = S.reset 4 ∧ Went l S F W w' ∧ (S.bank = 0 ∨ S.bank = 1) ∧ Clk (n + 1) S F ∧ DsOk F.due) :
    Calls Tryz.prog 53 #[.pointer (some ⟨l.g, 0, none⟩), .agg #[.bool rs, .int .i64 v, .int .u8 p]] w fun e w' => e = .returned (.agg #[.int .i64 (st.step ⟨rs, v, p⟩).2.kind, .int .i64 (st.step ⟨rs, v, p⟩).2.addr, .int .u8 (st.step ⟨rs, v, p⟩).2.data, .int .u8 (st.step ⟨rs, v, p⟩).2.out]) ∧ ∃ E, Went l (st.step ⟨rs, v, p⟩).1 E w w' ∧ XOk (n + 1) (st.step ⟨rs, v, p⟩).1 E := by
  have hfr := hr.fresh
  have hmf : ∀ (fn : Fn) (first cap : Array Value) (w : World), (Instr.makeFunc fn first cap).run Tryz.prog w = .ok (.func fn first cap) w := fun _ _ _ _ => rfl
  obtain ⟨sa, sd, sl, sb⟩ := sense_supply st rs v p
  rw [hS]
  have HD : Hid _ := sd.trans hdn
  have HL : Hid _ := sl.trans hl
  have HB : Hid ((senseS st v).bank == -1) = false := by
    rw [sb]
    rcases hbk with x | x <;> rw [x] <;> rfl
  have HB2 : (st.bank == -1) = false := by rcases hbk with x | x <;> rw [x] <;> rfl
  have HRN : Hid _ := hrun
  have SB : Hid _ := sb
  subst hrs
  have SA : Hid _ := sa
  clear sd sl sb sa hdn hS hl hbk hrun HB
  go_enter_defers Tryz.func53, Tryz.ntmps53
  go_wp2_with fail
  refine (xsense_any (((hr.alloc _).alloc _).alloc _) v).mono ?_
  rintro e w1 ⟨rfl, r1, k1⟩
  have V1 : Vars w w1 l.g false v p := (Vars.start w l.g false v p).kept k1 (hfr _ (Nat.le_refl _)) (hfr _ (by omega)) (hfr _ (by omega))
  have K1 : Kept l.own w w1 := ((((Kept.refl _ w).alloc _).alloc _).alloc _).trans k1
  clear k1
  have vb := V1.b
  have vi0 := V1.i0
  have vi1 := V1.i1
  have vi2 := V1.i2
  have cd := r1.c_down
  have hgl := r1.g_q
  have e1 : (senseS st v).down = false := HD.out
  rw [e1] at cd
  have cl := r1.c_left
  have e2 : (senseS st v).left = 0 := HL.out
  rw [e2] at cl
  have cb := r1.c_bank
  have e3 : (senseS st v).bank = st.bank := SB.out
  rw [e3] at cb
  have cbk := r1.c_bk
  clear e1 e2 e3
  have HR : Hid (Calls Tryz.prog 63 #[.pointer (some ⟨l.g, 0, none⟩), .int .u8 p] w1.drew fun e w2 => e = .panicked [{ v := .iface 150 (.agg #[.int .i64 C.kind, .int .i64 C.addr, .int .u8 C.data, .int .u8 0]), recovered := false }] ∧ (∃ S l2 F, T = S.reset 4 ∧ l2.g = l.g ∧ Grew l l2 w ∧ XRep l2 S F w2 ∧ Kept l.own w w2 ∧ (S.bank = 0 ∨ S.bank = 1) ∧ XOk (n + 1) (S.reset 4) F ∧ ¬ l2.own w.heap.size ∧ ¬ l2.own (w.heap.size + 1 + 1)) ∧ Vars w w2 l.g false v p) := by
    have hW : Kept (fun _ => False) w1 w1.drew := (Kept.refl _ _).drew
    have rW : XRep l (st.supply ⟨false, v, p⟩) ex w1.drew := (r1.alike SA.out).kept hW (fun _ _ x => x)
    have VW := V1.kept hW (fun x => x) (fun x => x) (fun x => x)
    have KW : Kept l.own w w1.drew := K1.trans (hW.wide (fun _ x => x.elim))
    refine (HRN.out _ rW).mono fun e w2 ⟨q1, S, F, q2, ⟨l2, g2, r2, k2'⟩, q3, q4, q5⟩ => ⟨q1, ⟨S, l2, F, q2, g2.g, g2.later KW.size, r2, KW.trans k2', q3, XOk.reset q4 q5 4, g2.out hr (Nat.le_refl _) (Nat.lt_of_le_of_lt (by omega) VW.s.2.2), g2.out hr (by omega) VW.s.2.2⟩, VW.kept k2' (hfr _ (Nat.le_refl _)) (hfr _ (by omega)) (hfr _ (by omega))⟩
  have HX : Hid (∀ (tm : Array Value) (w2 : World) (a : Act), a = { tmps := tm, defers := [{ target := .fn (.func 58) #[.pointer (some ⟨w.heap.size, 0, none⟩), .pointer (some ⟨w.heap.size + 1 + 1, 0, none⟩)], args := #[] }] } → tm[4]? = some (.pointer (some ⟨w.heap.size + 1 + 1, 0, none⟩)) → (∃ S l2 F, T = S.reset 4 ∧ l2.g = l.g ∧ Grew l l2 w ∧ XRep l2 S F w2 ∧ Kept l.own w w2 ∧ (S.bank = 0 ∨ S.bank = 1) ∧ XOk (n + 1) (S.reset 4) F ∧ ¬ l2.own w.heap.size ∧ ¬ l2.own (w.heap.size + 1 + 1)) → Vars w w2 l.g false v p → bodyPostD Tryz.prog Tryz.f53 (fun e w' => e = .returned (.agg #[.int .i64 C.kind, .int .i64 C.addr, .int .u8 C.data, .int .u8 T.out]) ∧ ∃ E, Went l T E w w' ∧ XOk (n + 1) T E) (.panic [{ v := .iface 150 (.agg #[.int .i64 C.kind, .int .i64 C.addr, .int .u8 C.data, .int .u8 0]), recovered := false }]) a w2) := by
    rintro tm w2 a rfl ht ⟨S, l2, F, hT, hg, G9, r9, K9, hbS, HZ, hn0, hn2⟩ V2
    obtain ⟨⟨z0, z1, z2, z3⟩, ⟨y0, y1, y2, y3⟩, hz⟩ := V2.s
    subst hT
    refine leaves_cons (f := 58) (args := #[.pointer (some ⟨w.heap.size, 0, none⟩), .pointer (some ⟨w.heap.size + 1 + 1, 0, none⟩)]) (by simp) (by simp [go_sem]) ?_
    refine (catch_trap r9 hbS w.heap.size (w.heap.size + 1 + 1) hn0 hn2 (by rw [hg]; exact V2.b) 0 0 0 0 z0 z1 z2 z3 y0 y1 y2 y3 C.kind C.addr C.data).mono ?_
    rintro e u' w9 ⟨rfl, rfl, r8, k8, q0, q1, q2, q3⟩
    rw [← reset_out S 4] at q3
    refine ⟨.agg #[.int .i64 C.kind, .int .i64 C.addr, .int .u8 C.data, .int .u8 (S.reset 4).out], by simp [results, Tryz.results53, go_sem, ht, q0, q1, q2, q3], rfl, F, ⟨l2, G9, r8, ?_⟩, HZ⟩
    have hs := K9.size
    refine ⟨k8.os.trans K9.os, k8.tape.trans K9.tape, k8.output.trans K9.output, Nat.le_trans K9.size k8.size, fun b hb hS => ?_⟩
    rw [← K9.block b hb hS]
    refine k8.block b (by omega) ?_
    rintro (x | x)
    · rcases G9.own x with y | y
      · exact hS y
      · omega
    · omega
  clear HRN
  go_wp2
  refine wp_region_any (by kernel_rfl) ?_
  (try (change wpAny _ _ _ _ _ _ _ (World.drew _)))
  refine wpAny_ready (rs := [0, 1, 2]) (by kernel_rfl) (by simp) ?_
  refine AllReady.cons rfl (fun K hK => ?_) ?_
  · go_simp
    (refine hK _ _ ?_; clear hK K)
    refine wpAny_ready (rs := [1, 2]) (by kernel_rfl) (by simp) ?_
    refine AllReady.cons rfl (fun K hK => ?_) ?_
    · go_simp
      (refine hK _ _ ?_; clear hK K)
      refine wpAny_ready (rs := [2]) (by kernel_rfl) (by simp) ?_
      refine AllReady.cons rfl (fun K hK => ?_) ?_
      · go_simp
        (refine hK _ _ ?_; clear hK K)
        refine wpAny_ready (rs := [3]) (by kernel_rfl) (by simp) ?_
        refine AllReady.cons rfl (fun K hK => ?_) ?_
        · go_simp
          (refine hK _ _ ?_; clear hK K)
          refine wpAny_ready (rs := [4]) (by kernel_rfl) (by simp) ?_
          refine AllReady.cons rfl (fun K hK => ?_) ?_
          · go_simp
            go_wp2_with (go_at_call 63; refine Calls.mono HR.out ?_; rintro e w2 ⟨rfl, hfin, V2⟩)
            exact HX.out _ _ _ rfl rfl hfin V2
          exact AllReady.nil
        exact AllReady.nil
      exact AllReady.nil
    refine AllReady.cons rfl (fun K hK => ?_) ?_
    · go_simp
      (refine hK _ _ ?_; clear hK K)
      refine wpAny_ready (rs := [1, 3]) (by kernel_rfl) (by simp) ?_
      refine AllReady.cons rfl (fun K hK => ?_) ?_
      · go_simp
        (refine hK _ _ ?_; clear hK K)
        refine wpAny_ready (rs := [3]) (by kernel_rfl) (by simp) ?_
        refine AllReady.cons rfl (fun K hK => ?_) ?_
        · go_simp
          (refine hK _ _ ?_; clear hK K)
          refine wpAny_ready (rs := [4]) (by kernel_rfl) (by simp) ?_
          refine AllReady.cons rfl (fun K hK => ?_) ?_
          · go_simp
            go_wp2_with (go_at_call 63; refine Calls.mono HR.out ?_; rintro e w2 ⟨rfl, hfin, V2⟩)
            exact HX.out _ _ _ rfl rfl hfin V2
          exact AllReady.nil
        exact AllReady.nil
      refine AllReady.cons rfl (fun K hK => ?_) ?_
      · go_simp
        (refine hK _ _ ?_; clear hK K)
        refine wpAny_ready (rs := [1]) (by kernel_rfl) (by simp) ?_
        refine AllReady.cons rfl (fun K hK => ?_) ?_
        · go_simp
          (refine hK _ _ ?_; clear hK K)
          refine wpAny_ready (rs := [4]) (by kernel_rfl) (by simp) ?_
          refine AllReady.cons rfl (fun K hK => ?_) ?_
          · go_simp
            go_wp2_with (go_at_call 63; refine Calls.mono HR.out ?_; rintro e w2 ⟨rfl, hfin, V2⟩)
            exact HX.out _ _ _ rfl rfl hfin V2
          exact AllReady.nil
        exact AllReady.nil
      exact AllReady.nil
    exact AllReady.nil
  refine AllReady.cons rfl (fun K hK => ?_) ?_
  · go_simp
    (refine hK _ _ ?_; clear hK K)
    refine wpAny_ready (rs := [0, 2]) (by kernel_rfl) (by simp) ?_
    refine AllReady.cons rfl (fun K hK => ?_) ?_
    · go_simp
      (refine hK _ _ ?_; clear hK K)
      refine wpAny_ready (rs := [2]) (by kernel_rfl) (by simp) ?_
      refine AllReady.cons rfl (fun K hK => ?_) ?_
      · go_simp
        (refine hK _ _ ?_; clear hK K)
        refine wpAny_ready (rs := [3]) (by kernel_rfl) (by simp) ?_
        refine AllReady.cons rfl (fun K hK => ?_) ?_
        · go_simp
          (refine hK _ _ ?_; clear hK K)
          refine wpAny_ready (rs := [4]) (by kernel_rfl) (by simp) ?_
          refine AllReady.cons rfl (fun K hK => ?_) ?_
          · go_simp
            go_wp2_with (go_at_call 63; refine Calls.mono HR.out ?_; rintro e w2 ⟨rfl, hfin, V2⟩)
            exact HX.out _ _ _ rfl rfl hfin V2
          exact AllReady.nil
        exact AllReady.nil
      exact AllReady.nil
    refine AllReady.cons rfl (fun K hK => ?_) ?_
    · go_simp
      (refine hK _ _ ?_; clear hK K)
      refine wpAny_ready (rs := [0, 3]) (by kernel_rfl) (by simp) ?_
      refine AllReady.cons rfl (fun K hK => ?_) ?_
      · go_simp
        (refine hK _ _ ?_; clear hK K)
        refine wpAny_ready (rs := [3]) (by kernel_rfl) (by simp) ?_
        refine AllReady.cons rfl (fun K hK => ?_) ?_
        · go_simp
          (refine hK _ _ ?_; clear hK K)
          refine wpAny_ready (rs := [4]) (by kernel_rfl) (by simp) ?_
          refine AllReady.cons rfl (fun K hK => ?_) ?_
          · go_simp
            go_wp2_with (go_at_call 63; refine Calls.mono HR.out ?_; rintro e w2 ⟨rfl, hfin, V2⟩)
            exact HX.out _ _ _ rfl rfl hfin V2
          exact AllReady.nil
        exact AllReady.nil
      refine AllReady.cons rfl (fun K hK => ?_) ?_
      · go_simp
        (refine hK _ _ ?_; clear hK K)
        refine wpAny_ready (rs := [0, 4]) (by kernel_rfl) (by simp) ?_
        refine AllReady.cons rfl (fun K hK => ?_) ?_
        · go_simp
          (refine hK _ _ ?_; clear hK K)
          refine wpAny_ready (rs := [4]) (by kernel_rfl) (by simp) ?_
          refine AllReady.cons rfl (fun K hK => ?_) ?_
          · go_simp
            go_wp2_with (go_at_call 63; refine Calls.mono HR.out ?_; rintro e w2 ⟨rfl, hfin, V2⟩)
            exact HX.out _ _ _ rfl rfl hfin V2
          exact AllReady.nil
        refine AllReady.cons rfl (fun K hK => ?_) ?_
        · go_simp
          go_wp2_with (go_at_call 63; refine Calls.mono HR.out ?_; rintro e w2 ⟨rfl, hfin, V2⟩)
          exact HX.out _ _ _ rfl rfl hfin V2
        exact AllReady.nil
      exact AllReady.nil
    exact AllReady.nil
  refine AllReady.cons rfl (fun K hK => ?_) ?_
  · go_simp
    (refine hK _ _ ?_; clear hK K)
    refine wpAny_ready (rs := [0, 1, 3]) (by kernel_rfl) (by simp) ?_
    refine AllReady.cons rfl (fun K hK => ?_) ?_
    · go_simp
      (refine hK _ _ ?_; clear hK K)
      refine wpAny_ready (rs := [1, 3]) (by kernel_rfl) (by simp) ?_
      refine AllReady.cons rfl (fun K hK => ?_) ?_
      · go_simp
        (refine hK _ _ ?_; clear hK K)
        refine wpAny_ready (rs := [3]) (by kernel_rfl) (by simp) ?_
        refine AllReady.cons rfl (fun K hK => ?_) ?_
        · go_simp
          (refine hK _ _ ?_; clear hK K)
          refine wpAny_ready (rs := [4]) (by kernel_rfl) (by simp) ?_
          refine AllReady.cons rfl (fun K hK => ?_) ?_
          · go_simp
            go_wp2_with (go_at_call 63; refine Calls.mono HR.out ?_; rintro e w2 ⟨rfl, hfin, V2⟩)
            exact HX.out _ _ _ rfl rfl hfin V2
          exact AllReady.nil
        exact AllReady.nil
      refine AllReady.cons rfl (fun K hK => ?_) ?_
      · go_simp
        (refine hK _ _ ?_; clear hK K)
        refine wpAny_ready (rs := [1]) (by kernel_rfl) (by simp) ?_
        refine AllReady.cons rfl (fun K hK => ?_) ?_
        · go_simp
          (refine hK _ _ ?_; clear hK K)
          refine wpAny_ready (rs := [4]) (by kernel_rfl) (by simp) ?_
          refine AllReady.cons rfl (fun K hK => ?_) ?_
          · go_simp
            go_wp2_with (go_at_call 63; refine Calls.mono HR.out ?_; rintro e w2 ⟨rfl, hfin, V2⟩)
            exact HX.out _ _ _ rfl rfl hfin V2
          exact AllReady.nil
        exact AllReady.nil
      exact AllReady.nil
    refine AllReady.cons rfl (fun K hK => ?_) ?_
    · go_simp
      (refine hK _ _ ?_; clear hK K)
      refine wpAny_ready (rs := [0, 3]) (by kernel_rfl) (by simp) ?_
      refine AllReady.cons rfl (fun K hK => ?_) ?_
      · go_simp
        (refine hK _ _ ?_; clear hK K)
        refine wpAny_ready (rs := [3]) (by kernel_rfl) (by simp) ?_
        refine AllReady.cons rfl (fun K hK => ?_) ?_
        · go_simp
          (refine hK _ _ ?_; clear hK K)
          refine wpAny_ready (rs := [4]) (by kernel_rfl) (by simp) ?_
          refine AllReady.cons rfl (fun K hK => ?_) ?_
          · go_simp
            go_wp2_with (go_at_call 63; refine Calls.mono HR.out ?_; rintro e w2 ⟨rfl, hfin, V2⟩)
            exact HX.out _ _ _ rfl rfl hfin V2
          exact AllReady.nil
        exact AllReady.nil
      refine AllReady.cons rfl (fun K hK => ?_) ?_
      · go_simp
        (refine hK _ _ ?_; clear hK K)
        refine wpAny_ready (rs := [0, 4]) (by kernel_rfl) (by simp) ?_
        refine AllReady.cons rfl (fun K hK => ?_) ?_
        · go_simp
          (refine hK _ _ ?_; clear hK K)
          refine wpAny_ready (rs := [4]) (by kernel_rfl) (by simp) ?_
          refine AllReady.cons rfl (fun K hK => ?_) ?_
          · go_simp
            go_wp2_with (go_at_call 63; refine Calls.mono HR.out ?_; rintro e w2 ⟨rfl, hfin, V2⟩)
            exact HX.out _ _ _ rfl rfl hfin V2
          exact AllReady.nil
        refine AllReady.cons rfl (fun K hK => ?_) ?_
        · go_simp
          go_wp2_with (go_at_call 63; refine Calls.mono HR.out ?_; rintro e w2 ⟨rfl, hfin, V2⟩)
          exact HX.out _ _ _ rfl rfl hfin V2
        exact AllReady.nil
      exact AllReady.nil
    refine AllReady.cons rfl (fun K hK => ?_) ?_
    · go_simp
      (refine hK _ _ ?_; clear hK K)
      refine wpAny_ready (rs := [0, 1]) (by kernel_rfl) (by simp) ?_
      refine AllReady.cons rfl (fun K hK => ?_) ?_
      · go_simp
        (refine hK _ _ ?_; clear hK K)
        refine wpAny_ready (rs := [1]) (by kernel_rfl) (by simp) ?_
        refine AllReady.cons rfl (fun K hK => ?_) ?_
        · go_simp
          (refine hK _ _ ?_; clear hK K)
          refine wpAny_ready (rs := [4]) (by kernel_rfl) (by simp) ?_
          refine AllReady.cons rfl (fun K hK => ?_) ?_
          · go_simp
            go_wp2_with (go_at_call 63; refine Calls.mono HR.out ?_; rintro e w2 ⟨rfl, hfin, V2⟩)
            exact HX.out _ _ _ rfl rfl hfin V2
          exact AllReady.nil
        exact AllReady.nil
      refine AllReady.cons rfl (fun K hK => ?_) ?_
      · go_simp
        (refine hK _ _ ?_; clear hK K)
        refine wpAny_ready (rs := [0, 4]) (by kernel_rfl) (by simp) ?_
        refine AllReady.cons rfl (fun K hK => ?_) ?_
        · go_simp
          (refine hK _ _ ?_; clear hK K)
          refine wpAny_ready (rs := [4]) (by kernel_rfl) (by simp) ?_
          refine AllReady.cons rfl (fun K hK => ?_) ?_
          · go_simp
            go_wp2_with (go_at_call 63; refine Calls.mono HR.out ?_; rintro e w2 ⟨rfl, hfin, V2⟩)
            exact HX.out _ _ _ rfl rfl hfin V2
          exact AllReady.nil
        refine AllReady.cons rfl (fun K hK => ?_) ?_
        · go_simp
          go_wp2_with (go_at_call 63; refine Calls.mono HR.out ?_; rintro e w2 ⟨rfl, hfin, V2⟩)
          exact HX.out _ _ _ rfl rfl hfin V2
        exact AllReady.nil
      exact AllReady.nil
    exact AllReady.nil
  exact AllReady.nil

end Go.Proofs.YtommhbidkoeifaaGreat
