/- Of several texts, one behind the other. -/
import Derived.Test.YtikdbpphbdbdnaaGreatXs
/- The program's board: Tell. -/
namespace Go.Proofs.YtikdbpphbdbdnaaGreat
open Go.RowKit
set_option linter.unusedVariables false
set_option linter.unusedSimpArgs false

set_option maxRecDepth 100000 in
set_option maxHeartbeats 4000000 in
theorem xTell_any {n : Nat} (hn : n < 4611686018427387903) {l : XL} {st : St} {ex : Ext} {w : World} (hr : XRep l st ex w) (hi : Inv st) (h : XOk n st ex) :
    Calls Tryz.prog 52 #[.pointer (some ⟨l.g, 0, none⟩)] w fun e w' => e = .returned st.told ∧ Still w w' := by
  have hgl := hr.g_q
  have c0 := hr.c_a
  have c1 := hr.c_x
  have c2 := hr.c_pc
  have c3 := hr.c_zero
  have c4 := hr.c_carry
  have c5 := hr.c_ph
  have c6 := hr.c_op
  have c7 := hr.c_addr
  have c8 := hr.c_wait
  have c11 := hr.c_bk
  have c12 := hr.c_tm
  have c13 := hr.c_wa
  have c16 := hr.c_re
  have cb := hr.c_bank
  have cs0 := hr.c_s0
  have cs1 := hr.c_s1
  have cc := hr.c_cause
  have cf := hr.c_flag
  have ha := hi.a
  have hx := hi.x
  have hpc := hi.pc
  have hct := hi.count
  have n1 := h.clk.n1
  obtain ⟨W0, hW0⟩ : ∃ W0, W0 = (w.alloc (.cells #[.int .i64 0, .int .i64 0, .int .i64 0, .bool false, .bool false, .int .i64 0, .int .i64 0, .int .i64 0, .int .i64 0, .int .i64 0, .int .i64 0, .bool false] 81)).alloc (.cells #[.int .u8 st.a, .int .u8 st.x, .int .u8 st.pc, .bool st.zero, .bool st.carry, .int .i64 ex.ph, .int .u8 ex.op, .int .u8 ex.addr, .bool ex.wait] 133) := ⟨_, rfl⟩
  have hfr := hr.fresh
  have r0 : XRep l st ex W0 := by rw [hW0]; exact (hr.alloc _).alloc _
  have b0 : Still w W0 := by rw [hW0]; exact ((Kept.refl _ _).alloc _).alloc _
  have s0 : W0.heap.size = w.heap.size + 1 + 1 := by rw [hW0]; simp
  have HA : Hid (∀ W, Still W0 W → Calls Tryz.prog 60 #[.pointer (some ⟨l.wa, 0, none⟩)] W fun e w' => e = .returned (.int .i64 st.age) ∧ Still W0 w') := fun W hW => by
    refine (wage_any (r0.kept hW (fun _ _ x => x)) h.clk.n0 (by omega) h.clk.fd hi.age.1 hi.age.2).mono fun e w' ⟨q1, m, q2⟩ => ⟨q1, ?_⟩
    rw [q2]
    exact Kept.drewN hW m
  have HC : Hid (∀ W, Still W0 W → Calls Tryz.prog 61 #[.pointer (some ⟨l.tm, 0, none⟩)] W fun e w' => e = .returned (.int .u8 st.count) ∧ Still W0 w') := fun W hW =>
    (tcount_any (by omega) (r0.kept hW (fun _ _ x => x)) hi h.clk).mono fun e w' ⟨q1, q2⟩ => ⟨q1, Kept.trans hW q2⟩
  have HS : Hid (∀ W, Kept (fun k => k = w.heap.size) W0 W → W.cell? ⟨l.g, 11, none⟩ = some (.pointer (some ⟨l.bk, 0, none⟩)) ∧ W.cell? ⟨l.g, 13, none⟩ = some (.pointer (some ⟨l.tm, 0, none⟩)) ∧ W.cell? ⟨l.g, 14, none⟩ = some (.pointer (some ⟨l.wa, 0, none⟩)) ∧ W.cell? ⟨l.g, 17, none⟩ = some (.pointer (some ⟨l.re, 0, none⟩)) ∧ W.cell? ⟨l.bk, 130, none⟩ = some (.int .i64 st.bank) ∧ W.cell? ⟨l.bk, 128, none⟩ = some (.int .i64 st.s0) ∧ W.cell? ⟨l.bk, 129, none⟩ = some (.int .i64 st.s1) ∧ W.cell? ⟨l.re, 0, none⟩ = some (.int .i64 st.cause) ∧ W.cell? ⟨l.tm, 3, none⟩ = some (.bool st.flag) ∧ W.cell? ⟨w.heap.size + 1, 0, none⟩ = some (.int .u8 st.a) ∧ W.cell? ⟨w.heap.size + 1, 1, none⟩ = some (.int .u8 st.x) ∧ W.cell? ⟨w.heap.size + 1, 2, none⟩ = some (.int .u8 st.pc) ∧ W.cell? ⟨w.heap.size + 1, 3, none⟩ = some (.bool st.zero) ∧ W.cell? ⟨w.heap.size + 1, 4, none⟩ = some (.bool st.carry)) := fun W hW =>
    have x := r0.kept hW (fun k hk e => hfr k (by omega) hk)
    have y := (kcell hW (b := w.heap.size + 1) (by omega) (by omega)).1
    ⟨x.c_bk, x.c_tm, x.c_wa, x.c_re, x.c_bank, x.c_s0, x.c_s1, x.c_cause, x.c_flag, by rw [y, hW0]; simp [go_sem], by rw [y, hW0]; simp [go_sem], by rw [y, hW0]; simp [go_sem], by rw [y, hW0]; simp [go_sem], by rw [y, hW0]; simp [go_sem]⟩
  have HZ : Hid (∀ W, Still W0 W → (W.cell? ⟨w.heap.size, 0, none⟩ = some (.int .i64 0) ∧ W.cell? ⟨w.heap.size, 1, none⟩ = some (.int .i64 0) ∧ W.cell? ⟨w.heap.size, 2, none⟩ = some (.int .i64 0) ∧ W.cell? ⟨w.heap.size, 3, none⟩ = some (.bool false) ∧ W.cell? ⟨w.heap.size, 4, none⟩ = some (.bool false) ∧ W.cell? ⟨w.heap.size, 5, none⟩ = some (.int .i64 0) ∧ W.cell? ⟨w.heap.size, 6, none⟩ = some (.int .i64 0) ∧ W.cell? ⟨w.heap.size, 7, none⟩ = some (.int .i64 0) ∧ W.cell? ⟨w.heap.size, 8, none⟩ = some (.int .i64 0) ∧ W.cell? ⟨w.heap.size, 9, none⟩ = some (.int .i64 0) ∧ W.cell? ⟨w.heap.size, 10, none⟩ = some (.int .i64 0) ∧ W.cell? ⟨w.heap.size, 11, none⟩ = some (.bool false)) ∧ (W.frozen? ⟨w.heap.size, 0, none⟩ = false ∧ W.frozen? ⟨w.heap.size, 1, none⟩ = false ∧ W.frozen? ⟨w.heap.size, 2, none⟩ = false ∧ W.frozen? ⟨w.heap.size, 3, none⟩ = false ∧ W.frozen? ⟨w.heap.size, 4, none⟩ = false ∧ W.frozen? ⟨w.heap.size, 5, none⟩ = false ∧ W.frozen? ⟨w.heap.size, 6, none⟩ = false ∧ W.frozen? ⟨w.heap.size, 7, none⟩ = false ∧ W.frozen? ⟨w.heap.size, 8, none⟩ = false ∧ W.frozen? ⟨w.heap.size, 9, none⟩ = false ∧ W.frozen? ⟨w.heap.size, 10, none⟩ = false ∧ W.frozen? ⟨w.heap.size, 11, none⟩ = false) ∧ w.heap.size < W.heap.size) := fun W hW => by
    obtain ⟨y, z⟩ := kcell hW (b := w.heap.size) (by omega) (fun x => x)
    refine ⟨⟨?_, ?_, ?_, ?_, ?_, ?_, ?_, ?_, ?_, ?_, ?_, ?_⟩, ⟨?_, ?_, ?_, ?_, ?_, ?_, ?_, ?_, ?_, ?_, ?_, ?_⟩, ?_⟩
    iterate 12 (rw [y, hW0, World.cell?_alloc_past _ _ _ (by simp)]; simp [go_sem])
    iterate 12 (rw [z, hW0, World.frozen?_alloc_past _ _ _ (by simp)]; simp [go_sem])
    have := hW.size
    omega
  have wa : IntKind.i64.wrap st.a = st.a := by simp [IntKind.wrap, IntKind.bits, IntKind.signed]; omega
  have wx : IntKind.i64.wrap st.x = st.x := by simp [IntKind.wrap, IntKind.bits, IntKind.signed]; omega
  have wpc : IntKind.i64.wrap st.pc = st.pc := by simp [IntKind.wrap, IntKind.bits, IntKind.signed]; omega
  have wct : IntKind.i64.wrap st.count = st.count := by simp [IntKind.wrap, IntKind.bits, IntKind.signed]; omega
  have ea : st.a % 256 = st.a := by omega
  have ex' : st.x % 256 = st.x := by omega
  have ep : st.pc % 256 = st.pc := by omega
  clear hr hi h n1 r0
  go_enter Tryz.func52, Tryz.ntmps52
  go_wp2
  rw [← hW0]
  clear hW0
  have hB := HS.out W0.drew (by (repeat (with_reducible first | refine Kept.setCell ?_ (Or.inl rfl) _ | apply Kept.drewN | apply Kept.drew | exact Kept.refl _ _)))
  go_region_held3 (fun W => W.cell? ⟨l.g, 11, none⟩ = some (.pointer (some ⟨l.bk, 0, none⟩)) ∧ W.cell? ⟨l.g, 13, none⟩ = some (.pointer (some ⟨l.tm, 0, none⟩)) ∧ W.cell? ⟨l.g, 14, none⟩ = some (.pointer (some ⟨l.wa, 0, none⟩)) ∧ W.cell? ⟨l.g, 17, none⟩ = some (.pointer (some ⟨l.re, 0, none⟩)) ∧ W.cell? ⟨l.bk, 130, none⟩ = some (.int .i64 st.bank) ∧ W.cell? ⟨l.bk, 128, none⟩ = some (.int .i64 st.s0) ∧ W.cell? ⟨l.bk, 129, none⟩ = some (.int .i64 st.s1) ∧ W.cell? ⟨l.re, 0, none⟩ = some (.int .i64 st.cause) ∧ W.cell? ⟨l.tm, 3, none⟩ = some (.bool st.flag) ∧ W.cell? ⟨w.heap.size + 1, 0, none⟩ = some (.int .u8 st.a) ∧ W.cell? ⟨w.heap.size + 1, 1, none⟩ = some (.int .u8 st.x) ∧ W.cell? ⟨w.heap.size + 1, 2, none⟩ = some (.int .u8 st.pc) ∧ W.cell? ⟨w.heap.size + 1, 3, none⟩ = some (.bool st.zero) ∧ W.cell? ⟨w.heap.size + 1, 4, none⟩ = some (.bool st.carry)) (first | (with_reducible exact hB) | (with_reducible exact s2) | (with_reducible exact s1) | (exact HS.out _ ((((((((((((kk2.setCell (b := w.heap.size) (Or.inl rfl) _).setCell (b := w.heap.size) (Or.inl rfl) _).setCell (b := w.heap.size) (Or.inl rfl) _).setCell (b := w.heap.size) (Or.inl rfl) _).setCell (b := w.heap.size) (Or.inl rfl) _).setCell (b := w.heap.size) (Or.inl rfl) _).setCell (b := w.heap.size) (Or.inl rfl) _).setCell (b := w.heap.size) (Or.inl rfl) _).setCell (b := w.heap.size) (Or.inl rfl) _).setCell (b := w.heap.size) (Or.inl rfl) _).setCell (b := w.heap.size) (Or.inl rfl) _).setCell (b := w.heap.size) (Or.inl rfl) _)) | go_keep) (first | (go_at_call 60; refine Calls.mono (HA.out _ (by first | exact k1 | exact k2 | exact Kept.refl _ _ | exact (Kept.refl _ _).drew)) ?_; rintro e w1 ⟨rfl, k1⟩; have s1 := HS.out _ (Kept.wide k1 (fun _ x => x.elim))) | (go_at_call 61; refine Calls.mono (HC.out _ (by first | exact k1 | exact Kept.refl _ _ | exact (Kept.refl _ _).drew)) ?_; rintro e w2 ⟨rfl, k2⟩; have kk2 : Kept (fun k => k = w.heap.size) W0 w2 := Kept.wide k2 (fun _ x => x.elim); have s2 := HS.out _ kk2; obtain ⟨⟨z0, z1, z2, z3, z4, z5, z6, z7, z8, z9, z10, z11⟩, ⟨y0, y1, y2, y3, y4, y5, y6, y7, y8, y9, y10, y11⟩, hz⟩ := HZ.out _ k2))
  go_wp2
  refine bodyPost_ret (v := st.told) (by simp [results, Tryz.results52, go_sem, z0, z1, z2, z3, z4, z5, z6, z7, z8, z9, z10, z11, wa, wx, wpc, wct, St.told]) rfl ⟨rfl, ?_⟩
  have k2 : Kept (fun _ => False) w w2 := Kept.trans b0 k2
  show Kept (fun _ => False) w _
  (repeat (with_reducible first | apply Kept.alloc | apply Kept.drewN | apply Kept.drew | apply Kept.nb | apply Kept.g | apply Kept.bs | apply Kept.ck | apply Kept.bk | apply Kept.tm | apply Kept.wa | apply Kept.po | apply Kept.up | apply Kept.re | apply Kept.me | refine Kept.setCell ?_ (Or.inr (Nat.le_refl _)) _ | refine Kept.setCell ?_ (Or.inr (by omega)) _ | exact k1 | exact k2 | exact k3 | exact Kept.refl _ _))

end Go.Proofs.YtikdbpphbdbdnaaGreat

/- The program's board: Tell, as it is called. -/
namespace Go.Proofs.YtikdbpphbdbdnaaGreat
open Go.RowKit
set_option linter.unusedVariables false

set_option maxRecDepth 100000 in
set_option maxHeartbeats 1000000 in
theorem nTell_any {n : Nat} (hn : n < 4611686018427387903) {l : XL} {st : St} {ex : Ext} {w : World} (hr : XRep l st ex w) (hi : Inv st) (h : XOk n st ex) :
    Calls Tryz.prog 36 #[.pointer (some ⟨l.nb, 0, none⟩)] w fun e w' => e = .returned st.told ∧ Still w w' := by
  have c0 := hr.c_nb0
  have hnl : l.nb < w.heap.size := hr.lt (Or.inl ⟨0, by omega, rfl⟩)
  have H : Hid (∀ W, XRep l st ex W → Calls Tryz.prog 52 #[.pointer (some ⟨l.g, 0, none⟩)] W fun e w' => e = .returned st.told ∧ Still W w') := fun W hW => xTell_any hn hW hi h
  have HZ : Hid (∀ W, Still (w.alloc (.cells #[.int .i64 0, .int .i64 0, .int .i64 0, .bool false, .bool false, .int .i64 0, .int .i64 0, .int .i64 0, .int .i64 0, .int .i64 0, .int .i64 0, .bool false] 81)) W → (W.cell? ⟨w.heap.size, 0, none⟩ = some (.int .i64 0) ∧ W.cell? ⟨w.heap.size, 1, none⟩ = some (.int .i64 0) ∧ W.cell? ⟨w.heap.size, 2, none⟩ = some (.int .i64 0) ∧ W.cell? ⟨w.heap.size, 3, none⟩ = some (.bool false) ∧ W.cell? ⟨w.heap.size, 4, none⟩ = some (.bool false) ∧ W.cell? ⟨w.heap.size, 5, none⟩ = some (.int .i64 0) ∧ W.cell? ⟨w.heap.size, 6, none⟩ = some (.int .i64 0) ∧ W.cell? ⟨w.heap.size, 7, none⟩ = some (.int .i64 0) ∧ W.cell? ⟨w.heap.size, 8, none⟩ = some (.int .i64 0) ∧ W.cell? ⟨w.heap.size, 9, none⟩ = some (.int .i64 0) ∧ W.cell? ⟨w.heap.size, 10, none⟩ = some (.int .i64 0) ∧ W.cell? ⟨w.heap.size, 11, none⟩ = some (.bool false)) ∧ (W.frozen? ⟨w.heap.size, 0, none⟩ = false ∧ W.frozen? ⟨w.heap.size, 1, none⟩ = false ∧ W.frozen? ⟨w.heap.size, 2, none⟩ = false ∧ W.frozen? ⟨w.heap.size, 3, none⟩ = false ∧ W.frozen? ⟨w.heap.size, 4, none⟩ = false ∧ W.frozen? ⟨w.heap.size, 5, none⟩ = false ∧ W.frozen? ⟨w.heap.size, 6, none⟩ = false ∧ W.frozen? ⟨w.heap.size, 7, none⟩ = false ∧ W.frozen? ⟨w.heap.size, 8, none⟩ = false ∧ W.frozen? ⟨w.heap.size, 9, none⟩ = false ∧ W.frozen? ⟨w.heap.size, 10, none⟩ = false ∧ W.frozen? ⟨w.heap.size, 11, none⟩ = false) ∧ w.heap.size < W.heap.size) := fun W hW => by
    obtain ⟨y, z⟩ := kcell hW (b := w.heap.size) (by simp) (fun x => x)
    refine ⟨⟨?_, ?_, ?_, ?_, ?_, ?_, ?_, ?_, ?_, ?_, ?_, ?_⟩, ⟨?_, ?_, ?_, ?_, ?_, ?_, ?_, ?_, ?_, ?_, ?_, ?_⟩, ?_⟩
    iterate 12 (rw [y]; simp [go_sem])
    iterate 12 (rw [z]; simp [go_sem])
    have := hW.size
    simp at this
    omega
  clear hi h
  unfold St.told at H ⊢
  go_enter Tryz.func36, Tryz.ntmps36
  go_wp2_with (go_at_call 52; refine Calls.mono (H.out _ (by (repeat (with_reducible first | apply XRep.alloc | apply XRep.drew | exact hr)))) ?_; rintro e w1 ⟨rfl, k1⟩; obtain ⟨⟨z0, z1, z2, z3, z4, z5, z6, z7, z8, z9, z10, z11⟩, ⟨y0, y1, y2, y3, y4, y5, y6, y7, y8, y9, y10, y11⟩, hz⟩ := HZ.out _ k1)
  refine bodyPost_ret (v := .agg #[.int .i64 st.a, .int .i64 st.x, .int .i64 st.pc, .bool st.zero, .bool st.carry, .int .i64 st.bank, .int .i64 st.s0, .int .i64 st.s1, .int .i64 st.cause, .int .i64 st.age, .int .i64 st.count, .bool st.flag]) (by simp [results, Tryz.results36, go_sem, z0, z1, z2, z3, z4, z5, z6, z7, z8, z9, z10, z11]) rfl ⟨rfl, ?_⟩
  have k2 : Kept (fun _ => False) w w1 := Kept.trans ((Kept.refl _ w).alloc _) k1
  show Kept (fun _ => False) w _
  (repeat (with_reducible first | apply Kept.alloc | apply Kept.drewN | apply Kept.drew | apply Kept.nb | apply Kept.g | apply Kept.bs | apply Kept.ck | apply Kept.bk | apply Kept.tm | apply Kept.wa | apply Kept.po | apply Kept.up | apply Kept.re | apply Kept.me | refine Kept.setCell ?_ (Or.inr (Nat.le_refl _)) _ | refine Kept.setCell ?_ (Or.inr (by omega)) _ | exact k1 | exact k2 | exact k3 | exact Kept.refl _ _))

end Go.Proofs.YtikdbpphbdbdnaaGreat
