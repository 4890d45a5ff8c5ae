/- The program's board: a cycle in which a trap comes. -/
import Derived.Test.YtikdbpphbdbdnaaGreatXb
namespace Go.Proofs.YtikdbpphbdbdnaaGreat
open Go.RowKit
set_option linter.unusedVariables false

set_option maxRecDepth 100000 in
set_option maxHeartbeats 2000000 in
theorem xrun_trap {n : Nat} (hn : n < 4611686018427387903) {l : XL} {st : St} {ex : Ext} {w : World} (hr : XRep l st ex w) (hi : Inv st) (h : Rel n st ex) (hb : st.bank = 0 ∨ st.bank = 1) (hl : st.left = 0) (hrst : st.rst = 0) (p : Int) (hp : st.inp = p) (C : Cy) (hC : st.works.2 = C) (h0 : ¬ st.works.1.rst = 0) (h3 : ¬ st.works.1.rst = 3) :
    Calls Tryz.prog 68 #[.pointer (some ⟨l.g, 0, none⟩), .int .u8 p] w fun e w' => e = .panicked [{ v := .iface 150 (.agg #[.int .i64 C.kind, .int .i64 C.addr, .int .u8 C.data, .int .u8 0]), recovered := false }] ∧ ∃ (S : St) (F : Ext), st.works.1 = S.reset 4 ∧ Went l S F w w' ∧ S.bank = st.bank ∧ Clk n S F ∧ DsOk F.due := by
  have c1 := hr.c_po
  have c2 := hr.c_inp
  have f2 := hr.f_inp
  have c3 := hr.c_bus
  have c4 := hr.c_tm
  have c5 := hr.c_flag
  have hgl := hr.g_q
  have htl := hr.tm_q
  have hpl := hr.po_q
  have hr2 := (hr.set_inp p).alloc zc
  have h2 : Rel n st { ex with inp := p } := ⟨h.clk.as rfl rfl rfl rfl rfl rfl, h.due, h.ph.as rfl rfl rfl rfl rfl rfl rfl rfl, h.early⟩
  have hpt : l.po ≠ l.tm := fun e => absurd (hr.inj 7 5 (by omega) (by omega) e) (by decide)
  have hpg : l.po ≠ l.g := fun e => absurd (hr.inj 7 1 (by omega) (by omega) e) (by decide)
  have k0 : Kept l.own w ((w.setCell ⟨l.po, 1, none⟩ (.int .u8 p)).alloc zc) := ((Kept.refl _ _).po _ _).alloc _
  have HC : ∀ W, Kept (fun _ => False) ((w.setCell ⟨l.po, 1, none⟩ (.int .u8 p)).alloc zc) W → Calls Tryz.prog 78 #[.pointer (some ⟨l.g, 0, none⟩), .iface 135 (.slice (some ⟨l.bs, 0, none⟩) 7 7), .bool st.flag] W fun e w' => e = .panicked [{ v := .iface 150 (.agg #[.int .i64 C.kind, .int .i64 C.addr, .int .u8 C.data, .int .u8 0]), recovered := false }] ∧ ∃ (S : St) (F : Ext), st.works.1 = S.reset 4 ∧ Went l S F w w' ∧ S.bank = st.bank ∧ Clk n S F ∧ DsOk F.due := fun W hW => by
    refine (zCycle_any (by omega) (hr2.kept hW (fun _ _ x => x)) hi h2 hb hp.symm hrst).mono fun e w' hc => ?_
    obtain ⟨q1, S, E, q2, q3, q4, q5, q6⟩ := zCycle_falls hc h0 h3
    rw [hC] at q1
    exact ⟨q1, S, E, q2, Went.before (k0.trans (hW.wide (fun _ x => x.elim))) q3, q4, q5, q6⟩
  have HS : Hid (∀ W, Kept l.own (w.setCell ⟨l.po, 1, none⟩ (.int .u8 p)) W → Kept (fun _ => False) (w.setCell ⟨l.po, 1, none⟩ (.int .u8 p)) W → W.cell? ⟨l.g, 9, none⟩ = some (.slice (some ⟨l.bs, 0, none⟩) 7 7) ∧ W.cell? ⟨l.g, 13, none⟩ = some (.pointer (some ⟨l.tm, 0, none⟩)) ∧ W.cell? ⟨l.tm, 3, none⟩ = some (.bool st.flag)) := fun W _ hW =>
    have hx := (hr.set_inp p).kept hW (fun _ _ x => x)
    ⟨hx.c_bus, hx.c_tm, hx.c_flag⟩
  have H1 : Hid (Calls Tryz.prog 78 #[.pointer (some ⟨l.g, 0, none⟩), .iface 135 (.slice (some ⟨l.bs, 0, none⟩) 7 7), .bool st.flag] ((w.setCell ⟨l.po, 1, none⟩ (.int .u8 p)).alloc (.cells #[.int .i64 0, .int .i64 0, .int .u8 0, .int .u8 0] 54)).drew _) := HC _ ((Kept.refl _ _).drew)
  have H2 : Hid (Calls Tryz.prog 78 #[.pointer (some ⟨l.g, 0, none⟩), .iface 135 (.slice (some ⟨l.bs, 0, none⟩) 7 7), .bool st.flag] (((w.setCell ⟨l.po, 1, none⟩ (.int .u8 p)).alloc (.cells #[.int .i64 0, .int .i64 0, .int .u8 0, .int .u8 0] 54)).alloc (.cells #[.int .i64 0, .int .i64 0, .int .u8 0, .int .u8 0] 54)).drew _) := HC _ (((Kept.refl _ _).alloc zc).drew)
  clear HC
  clear hr2 hC hp hl hrst h0 h3 hb
  go_enter Tryz.func68, Tryz.ntmps68
  go_wp2
  refine wp_region_any (by kernel_rfl) ?_
  (try (change wpAny _ _ _ _ _ _ _ (World.drew _)))
  refine wpAny_take (i := 0) (v := ?_) rfl (by kernel_rfl) (by kernel_rfl) (by kernel_rfl) (fun _ _ _ h => h) (Or.inl ⟨by rfl, ?_⟩) ?_
  rotate_left
  · (intro w; go_simp; try with_reducible rfl)
  refine wpAny_take (i := 1) (v := ?_) rfl (by kernel_rfl) (by kernel_rfl) (by kernel_rfl) (fun _ _ _ h => h) (Or.inl ⟨by rfl, ?_⟩) ?_
  rotate_left
  · (intro w; go_simp; try with_reducible rfl)
  refine wpAny_take (i := 2) (v := ?_) rfl (by kernel_rfl) (by kernel_rfl) (by kernel_rfl) (fun _ _ _ h => h) (Or.inl ⟨by rfl, ?_⟩) ?_
  rotate_left
  · (intro w; go_simp; try with_reducible rfl)
  refine wpAny_take (i := 3) (v := ?_) rfl (by kernel_rfl) (by kernel_rfl) (by kernel_rfl) (fun _ _ _ h => h) (Or.inl ⟨by rfl, ?_⟩) ?_
  rotate_left
  · (intro w; go_simp; try with_reducible rfl)
  refine wpAny_take (i := 4) (v := ?_) rfl (by kernel_rfl) (by kernel_rfl) (by kernel_rfl) (fun _ _ _ h => h) (Or.inl ⟨by rfl, ?_⟩) ?_
  rotate_left
  · (intro w; go_simp; try with_reducible rfl)
  refine wpAny_take (i := 5) (v := ?_) rfl (by kernel_rfl) (by kernel_rfl) (by kernel_rfl) (fun _ _ _ h => h) (Or.inl ⟨by rfl, ?_⟩) ?_
  rotate_left
  · (intro w; go_simp; try with_reducible rfl)
  refine wpAny_take (i := 8) (v := ?_) rfl (by kernel_rfl) (by kernel_rfl) (by kernel_rfl) (fun _ _ _ h => h) (Or.inl ⟨by rfl, ?_⟩) ?_
  rotate_left
  · (intro w; go_simp; try with_reducible rfl)
  refine wpAny_take (i := 9) (v := ?_) rfl (by kernel_rfl) (by kernel_rfl) (by kernel_rfl) (fun _ _ _ h => h) (Or.inl ⟨by rfl, ?_⟩) ?_
  rotate_left
  · (intro w; go_simp; try with_reducible rfl)
  refine wpAny_take (i := 10) (v := ?_) rfl (by kernel_rfl) (by kernel_rfl) (by kernel_rfl) (fun _ _ _ h => h) (Or.inl ⟨by rfl, ?_⟩) ?_
  rotate_left
  · (intro w; go_simp; try with_reducible rfl)
  refine wpAny_ready (rs := [6, 11, 16]) (by kernel_rfl) (by simp) ?_
  refine AllReady.cons rfl (fun K hK => ?_) ?_
  · go_simp
    (refine hK _ _ ?_; clear hK K)
    refine wpAny_take (i := 7) (v := ?_) rfl (by kernel_rfl) (by kernel_rfl) (by kernel_rfl) (fun _ _ _ h => h) (Or.inl ⟨by rfl, ?_⟩) ?_
    rotate_left
    · (intro w; go_simp; try with_reducible rfl)
    refine wpAny_ready (rs := [11, 16]) (by kernel_rfl) (by simp) ?_
    refine AllReady.cons rfl (fun K hK => ?_) ?_
    · go_simp
      (refine hK _ _ ?_; clear hK K)
      refine wpAny_take (i := 12) (v := ?_) rfl (by kernel_rfl) (by kernel_rfl) (by kernel_rfl) (fun _ _ _ h => h) (Or.inl ⟨by rfl, ?_⟩) ?_
      rotate_left
      · (intro w; go_simp; try with_reducible rfl)
      refine wpAny_take (i := 13) (v := ?_) rfl (by kernel_rfl) (by kernel_rfl) (by kernel_rfl) (fun _ _ _ h => h) (Or.inl ⟨by rfl, ?_⟩) ?_
      rotate_left
      · (intro w; go_simp; try with_reducible rfl)
      refine wpAny_ready (rs := [14, 16]) (by kernel_rfl) (by simp) ?_
      refine AllReady.cons rfl (fun K hK => ?_) ?_
      · go_simp
        (refine hK _ _ ?_; clear hK K)
        refine wpAny_ready (rs := [15, 16]) (by kernel_rfl) (by simp) ?_
        refine AllReady.cons rfl (fun K hK => ?_) ?_
        · go_simp
          go_wp2_with (first | (go_at_call 78; refine Calls.mono H1.out ?_; rintro e w1 ⟨rfl, hq⟩) | (go_at_call 78; refine Calls.mono H2.out ?_; rintro e w1 ⟨rfl, hq⟩))
          exact ⟨rfl, rfl, hq⟩
        refine AllReady.cons rfl (fun K hK => ?_) ?_
        · go_simp
          (refine hK _ _ ?_; clear hK K)
          refine wpAny_ready (rs := [15]) (by kernel_rfl) (by simp) ?_
          refine AllReady.cons rfl (fun K hK => ?_) ?_
          · go_simp
            go_wp2_with (first | (go_at_call 78; refine Calls.mono H1.out ?_; rintro e w1 ⟨rfl, hq⟩) | (go_at_call 78; refine Calls.mono H2.out ?_; rintro e w1 ⟨rfl, hq⟩))
            exact ⟨rfl, rfl, hq⟩
          exact AllReady.nil
        exact AllReady.nil
      refine AllReady.cons rfl (fun K hK => ?_) ?_
      · go_simp
        (refine hK _ _ ?_; clear hK K)
        refine wpAny_ready (rs := [14]) (by kernel_rfl) (by simp) ?_
        refine AllReady.cons rfl (fun K hK => ?_) ?_
        · go_simp
          (refine hK _ _ ?_; clear hK K)
          refine wpAny_ready (rs := [15]) (by kernel_rfl) (by simp) ?_
          refine AllReady.cons rfl (fun K hK => ?_) ?_
          · go_simp
            go_wp2_with (first | (go_at_call 78; refine Calls.mono H1.out ?_; rintro e w1 ⟨rfl, hq⟩) | (go_at_call 78; refine Calls.mono H2.out ?_; rintro e w1 ⟨rfl, hq⟩))
            exact ⟨rfl, rfl, hq⟩
          exact AllReady.nil
        exact AllReady.nil
      exact AllReady.nil
    refine AllReady.cons rfl (fun K hK => ?_) ?_
    · go_simp
      (refine hK _ _ ?_; clear hK K)
      refine wpAny_ready (rs := [11]) (by kernel_rfl) (by simp) ?_
      refine AllReady.cons rfl (fun K hK => ?_) ?_
      · go_simp
        (refine hK _ _ ?_; clear hK K)
        refine wpAny_take (i := 12) (v := ?_) rfl (by kernel_rfl) (by kernel_rfl) (by kernel_rfl) (fun _ _ _ h => h) (Or.inl ⟨by rfl, ?_⟩) ?_
        rotate_left
        · (intro w; go_simp; try with_reducible rfl)
        refine wpAny_take (i := 13) (v := ?_) rfl (by kernel_rfl) (by kernel_rfl) (by kernel_rfl) (fun _ _ _ h => h) (Or.inl ⟨by rfl, ?_⟩) ?_
        rotate_left
        · (intro w; go_simp; try with_reducible rfl)
        refine wpAny_ready (rs := [14]) (by kernel_rfl) (by simp) ?_
        refine AllReady.cons rfl (fun K hK => ?_) ?_
        · go_simp
          (refine hK _ _ ?_; clear hK K)
          refine wpAny_ready (rs := [15]) (by kernel_rfl) (by simp) ?_
          refine AllReady.cons rfl (fun K hK => ?_) ?_
          · go_simp
            go_wp2_with (first | (go_at_call 78; refine Calls.mono H1.out ?_; rintro e w1 ⟨rfl, hq⟩) | (go_at_call 78; refine Calls.mono H2.out ?_; rintro e w1 ⟨rfl, hq⟩))
            exact ⟨rfl, rfl, hq⟩
          exact AllReady.nil
        exact AllReady.nil
      exact AllReady.nil
    exact AllReady.nil
  refine AllReady.cons rfl (fun K hK => ?_) ?_
  · go_simp
    (refine hK _ _ ?_; clear hK K)
    refine wpAny_take (i := 12) (v := ?_) rfl (by kernel_rfl) (by kernel_rfl) (by kernel_rfl) (fun _ _ _ h => h) (Or.inl ⟨by rfl, ?_⟩) ?_
    rotate_left
    · (intro w; go_simp; try with_reducible rfl)
    refine wpAny_take (i := 13) (v := ?_) rfl (by kernel_rfl) (by kernel_rfl) (by kernel_rfl) (fun _ _ _ h => h) (Or.inl ⟨by rfl, ?_⟩) ?_
    rotate_left
    · (intro w; go_simp; try with_reducible rfl)
    refine wpAny_ready (rs := [6, 14, 16]) (by kernel_rfl) (by simp) ?_
    refine AllReady.cons rfl (fun K hK => ?_) ?_
    · go_simp
      (refine hK _ _ ?_; clear hK K)
      refine wpAny_take (i := 7) (v := ?_) rfl (by kernel_rfl) (by kernel_rfl) (by kernel_rfl) (fun _ _ _ h => h) (Or.inl ⟨by rfl, ?_⟩) ?_
      rotate_left
      · (intro w; go_simp; try with_reducible rfl)
      refine wpAny_ready (rs := [14, 16]) (by kernel_rfl) (by simp) ?_
      refine AllReady.cons rfl (fun K hK => ?_) ?_
      · go_simp
        (refine hK _ _ ?_; clear hK K)
        refine wpAny_ready (rs := [15, 16]) (by kernel_rfl) (by simp) ?_
        refine AllReady.cons rfl (fun K hK => ?_) ?_
        · go_simp
          go_wp2_with (first | (go_at_call 78; refine Calls.mono H1.out ?_; rintro e w1 ⟨rfl, hq⟩) | (go_at_call 78; refine Calls.mono H2.out ?_; rintro e w1 ⟨rfl, hq⟩))
          exact ⟨rfl, rfl, hq⟩
        refine AllReady.cons rfl (fun K hK => ?_) ?_
        · go_simp
          (refine hK _ _ ?_; clear hK K)
          refine wpAny_ready (rs := [15]) (by kernel_rfl) (by simp) ?_
          refine AllReady.cons rfl (fun K hK => ?_) ?_
          · go_simp
            go_wp2_with (first | (go_at_call 78; refine Calls.mono H1.out ?_; rintro e w1 ⟨rfl, hq⟩) | (go_at_call 78; refine Calls.mono H2.out ?_; rintro e w1 ⟨rfl, hq⟩))
            exact ⟨rfl, rfl, hq⟩
          exact AllReady.nil
        exact AllReady.nil
      refine AllReady.cons rfl (fun K hK => ?_) ?_
      · go_simp
        (refine hK _ _ ?_; clear hK K)
        refine wpAny_ready (rs := [14]) (by kernel_rfl) (by simp) ?_
        refine AllReady.cons rfl (fun K hK => ?_) ?_
        · go_simp
          (refine hK _ _ ?_; clear hK K)
          refine wpAny_ready (rs := [15]) (by kernel_rfl) (by simp) ?_
          refine AllReady.cons rfl (fun K hK => ?_) ?_
          · go_simp
            go_wp2_with (first | (go_at_call 78; refine Calls.mono H1.out ?_; rintro e w1 ⟨rfl, hq⟩) | (go_at_call 78; refine Calls.mono H2.out ?_; rintro e w1 ⟨rfl, hq⟩))
            exact ⟨rfl, rfl, hq⟩
          exact AllReady.nil
        exact AllReady.nil
      exact AllReady.nil
    refine AllReady.cons rfl (fun K hK => ?_) ?_
    · go_simp
      (refine hK _ _ ?_; clear hK K)
      refine wpAny_ready (rs := [6, 16]) (by kernel_rfl) (by simp) ?_
      refine AllReady.cons rfl (fun K hK => ?_) ?_
      · go_simp
        (refine hK _ _ ?_; clear hK K)
        refine wpAny_take (i := 7) (v := ?_) rfl (by kernel_rfl) (by kernel_rfl) (by kernel_rfl) (fun _ _ _ h => h) (Or.inl ⟨by rfl, ?_⟩) ?_
        rotate_left
        · (intro w; go_simp; try with_reducible rfl)
        refine wpAny_ready (rs := [15, 16]) (by kernel_rfl) (by simp) ?_
        refine AllReady.cons rfl (fun K hK => ?_) ?_
        · go_simp
          go_wp2_with (first | (go_at_call 78; refine Calls.mono H1.out ?_; rintro e w1 ⟨rfl, hq⟩) | (go_at_call 78; refine Calls.mono H2.out ?_; rintro e w1 ⟨rfl, hq⟩))
          exact ⟨rfl, rfl, hq⟩
        refine AllReady.cons rfl (fun K hK => ?_) ?_
        · go_simp
          (refine hK _ _ ?_; clear hK K)
          refine wpAny_ready (rs := [15]) (by kernel_rfl) (by simp) ?_
          refine AllReady.cons rfl (fun K hK => ?_) ?_
          · go_simp
            go_wp2_with (first | (go_at_call 78; refine Calls.mono H1.out ?_; rintro e w1 ⟨rfl, hq⟩) | (go_at_call 78; refine Calls.mono H2.out ?_; rintro e w1 ⟨rfl, hq⟩))
            exact ⟨rfl, rfl, hq⟩
          exact AllReady.nil
        exact AllReady.nil
      refine AllReady.cons rfl (fun K hK => ?_) ?_
      · go_simp
        (refine hK _ _ ?_; clear hK K)
        refine wpAny_ready (rs := [6]) (by kernel_rfl) (by simp) ?_
        refine AllReady.cons rfl (fun K hK => ?_) ?_
        · go_simp
          (refine hK _ _ ?_; clear hK K)
          refine wpAny_take (i := 7) (v := ?_) rfl (by kernel_rfl) (by kernel_rfl) (by kernel_rfl) (fun _ _ _ h => h) (Or.inl ⟨by rfl, ?_⟩) ?_
          rotate_left
          · (intro w; go_simp; try with_reducible rfl)
          refine wpAny_ready (rs := [15]) (by kernel_rfl) (by simp) ?_
          refine AllReady.cons rfl (fun K hK => ?_) ?_
          · go_simp
            go_wp2_with (first | (go_at_call 78; refine Calls.mono H1.out ?_; rintro e w1 ⟨rfl, hq⟩) | (go_at_call 78; refine Calls.mono H2.out ?_; rintro e w1 ⟨rfl, hq⟩))
            exact ⟨rfl, rfl, hq⟩
          exact AllReady.nil
        exact AllReady.nil
      exact AllReady.nil
    refine AllReady.cons rfl (fun K hK => ?_) ?_
    · go_simp
      (refine hK _ _ ?_; clear hK K)
      refine wpAny_ready (rs := [6, 14]) (by kernel_rfl) (by simp) ?_
      refine AllReady.cons rfl (fun K hK => ?_) ?_
      · go_simp
        (refine hK _ _ ?_; clear hK K)
        refine wpAny_take (i := 7) (v := ?_) rfl (by kernel_rfl) (by kernel_rfl) (by kernel_rfl) (fun _ _ _ h => h) (Or.inl ⟨by rfl, ?_⟩) ?_
        rotate_left
        · (intro w; go_simp; try with_reducible rfl)
        refine wpAny_ready (rs := [14]) (by kernel_rfl) (by simp) ?_
        refine AllReady.cons rfl (fun K hK => ?_) ?_
        · go_simp
          (refine hK _ _ ?_; clear hK K)
          refine wpAny_ready (rs := [15]) (by kernel_rfl) (by simp) ?_
          refine AllReady.cons rfl (fun K hK => ?_) ?_
          · go_simp
            go_wp2_with (first | (go_at_call 78; refine Calls.mono H1.out ?_; rintro e w1 ⟨rfl, hq⟩) | (go_at_call 78; refine Calls.mono H2.out ?_; rintro e w1 ⟨rfl, hq⟩))
            exact ⟨rfl, rfl, hq⟩
          exact AllReady.nil
        exact AllReady.nil
      refine AllReady.cons rfl (fun K hK => ?_) ?_
      · go_simp
        (refine hK _ _ ?_; clear hK K)
        refine wpAny_ready (rs := [6]) (by kernel_rfl) (by simp) ?_
        refine AllReady.cons rfl (fun K hK => ?_) ?_
        · go_simp
          (refine hK _ _ ?_; clear hK K)
          refine wpAny_take (i := 7) (v := ?_) rfl (by kernel_rfl) (by kernel_rfl) (by kernel_rfl) (fun _ _ _ h => h) (Or.inl ⟨by rfl, ?_⟩) ?_
          rotate_left
          · (intro w; go_simp; try with_reducible rfl)
          refine wpAny_ready (rs := [15]) (by kernel_rfl) (by simp) ?_
          refine AllReady.cons rfl (fun K hK => ?_) ?_
          · go_simp
            go_wp2_with (first | (go_at_call 78; refine Calls.mono H1.out ?_; rintro e w1 ⟨rfl, hq⟩) | (go_at_call 78; refine Calls.mono H2.out ?_; rintro e w1 ⟨rfl, hq⟩))
            exact ⟨rfl, rfl, hq⟩
          exact AllReady.nil
        exact AllReady.nil
      exact AllReady.nil
    exact AllReady.nil
  refine AllReady.cons rfl (fun K hK => ?_) ?_
  · go_simp
    (refine hK _ _ ?_; clear hK K)
    refine wpAny_ready (rs := [6, 11]) (by kernel_rfl) (by simp) ?_
    refine AllReady.cons rfl (fun K hK => ?_) ?_
    · go_simp
      (refine hK _ _ ?_; clear hK K)
      refine wpAny_take (i := 7) (v := ?_) rfl (by kernel_rfl) (by kernel_rfl) (by kernel_rfl) (fun _ _ _ h => h) (Or.inl ⟨by rfl, ?_⟩) ?_
      rotate_left
      · (intro w; go_simp; try with_reducible rfl)
      refine wpAny_ready (rs := [11]) (by kernel_rfl) (by simp) ?_
      refine AllReady.cons rfl (fun K hK => ?_) ?_
      · go_simp
        (refine hK _ _ ?_; clear hK K)
        refine wpAny_take (i := 12) (v := ?_) rfl (by kernel_rfl) (by kernel_rfl) (by kernel_rfl) (fun _ _ _ h => h) (Or.inl ⟨by rfl, ?_⟩) ?_
        rotate_left
        · (intro w; go_simp; try with_reducible rfl)
        refine wpAny_take (i := 13) (v := ?_) rfl (by kernel_rfl) (by kernel_rfl) (by kernel_rfl) (fun _ _ _ h => h) (Or.inl ⟨by rfl, ?_⟩) ?_
        rotate_left
        · (intro w; go_simp; try with_reducible rfl)
        refine wpAny_ready (rs := [14]) (by kernel_rfl) (by simp) ?_
        refine AllReady.cons rfl (fun K hK => ?_) ?_
        · go_simp
          (refine hK _ _ ?_; clear hK K)
          refine wpAny_ready (rs := [15]) (by kernel_rfl) (by simp) ?_
          refine AllReady.cons rfl (fun K hK => ?_) ?_
          · go_simp
            go_wp2_with (first | (go_at_call 78; refine Calls.mono H1.out ?_; rintro e w1 ⟨rfl, hq⟩) | (go_at_call 78; refine Calls.mono H2.out ?_; rintro e w1 ⟨rfl, hq⟩))
            exact ⟨rfl, rfl, hq⟩
          exact AllReady.nil
        exact AllReady.nil
      exact AllReady.nil
    refine AllReady.cons rfl (fun K hK => ?_) ?_
    · go_simp
      (refine hK _ _ ?_; clear hK K)
      refine wpAny_take (i := 12) (v := ?_) rfl (by kernel_rfl) (by kernel_rfl) (by kernel_rfl) (fun _ _ _ h => h) (Or.inl ⟨by rfl, ?_⟩) ?_
      rotate_left
      · (intro w; go_simp; try with_reducible rfl)
      refine wpAny_take (i := 13) (v := ?_) rfl (by kernel_rfl) (by kernel_rfl) (by kernel_rfl) (fun _ _ _ h => h) (Or.inl ⟨by rfl, ?_⟩) ?_
      rotate_left
      · (intro w; go_simp; try with_reducible rfl)
      refine wpAny_ready (rs := [6, 14]) (by kernel_rfl) (by simp) ?_
      refine AllReady.cons rfl (fun K hK => ?_) ?_
      · go_simp
        (refine hK _ _ ?_; clear hK K)
        refine wpAny_take (i := 7) (v := ?_) rfl (by kernel_rfl) (by kernel_rfl) (by kernel_rfl) (fun _ _ _ h => h) (Or.inl ⟨by rfl, ?_⟩) ?_
        rotate_left
        · (intro w; go_simp; try with_reducible rfl)
        refine wpAny_ready (rs := [14]) (by kernel_rfl) (by simp) ?_
        refine AllReady.cons rfl (fun K hK => ?_) ?_
        · go_simp
          (refine hK _ _ ?_; clear hK K)
          refine wpAny_ready (rs := [15]) (by kernel_rfl) (by simp) ?_
          refine AllReady.cons rfl (fun K hK => ?_) ?_
          · go_simp
            go_wp2_with (first | (go_at_call 78; refine Calls.mono H1.out ?_; rintro e w1 ⟨rfl, hq⟩) | (go_at_call 78; refine Calls.mono H2.out ?_; rintro e w1 ⟨rfl, hq⟩))
            exact ⟨rfl, rfl, hq⟩
          exact AllReady.nil
        exact AllReady.nil
      refine AllReady.cons rfl (fun K hK => ?_) ?_
      · go_simp
        (refine hK _ _ ?_; clear hK K)
        refine wpAny_ready (rs := [6]) (by kernel_rfl) (by simp) ?_
        refine AllReady.cons rfl (fun K hK => ?_) ?_
        · go_simp
          (refine hK _ _ ?_; clear hK K)
          refine wpAny_take (i := 7) (v := ?_) rfl (by kernel_rfl) (by kernel_rfl) (by kernel_rfl) (fun _ _ _ h => h) (Or.inl ⟨by rfl, ?_⟩) ?_
          rotate_left
          · (intro w; go_simp; try with_reducible rfl)
          refine wpAny_ready (rs := [15]) (by kernel_rfl) (by simp) ?_
          refine AllReady.cons rfl (fun K hK => ?_) ?_
          · go_simp
            go_wp2_with (first | (go_at_call 78; refine Calls.mono H1.out ?_; rintro e w1 ⟨rfl, hq⟩) | (go_at_call 78; refine Calls.mono H2.out ?_; rintro e w1 ⟨rfl, hq⟩))
            exact ⟨rfl, rfl, hq⟩
          exact AllReady.nil
        exact AllReady.nil
      exact AllReady.nil
    exact AllReady.nil
  exact AllReady.nil

end Go.Proofs.YtikdbpphbdbdnaaGreat
