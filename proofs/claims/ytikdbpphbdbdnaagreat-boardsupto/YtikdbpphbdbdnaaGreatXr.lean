/- Of several texts, one behind the other. -/
import Derived.Test.YtikdbpphbdbdnaaGreatXb
/- The program's board: a cycle in which the processor works, and nothing special comes. -/
namespace Go.Proofs.YtikdbpphbdbdnaaGreat
open Go.RowKit
set_option linter.unusedVariables false

/-- What the processor's cycle leaves, for the walk that goes on. -/
theorem run_left {l : XL} {st : St} {ex : Ext} {w W w1 : World} {T : St} {E : Ext} (hr : XRep l st ex w) (hh : W.heap[w.heap.size]? = some zc) (kW : Kept l.own w W) (h : Went l T E W w1) :
    ∃ l', Grew l l' w ∧ XRep l' T E w1 ∧ Kept l.own w w1 ∧ w1.heap[w.heap.size]? = some zc ∧ (w1.cell? ⟨l.g, 14, none⟩ = some (.pointer (some ⟨l.wa, 0, none⟩)) ∧ w1.cell? ⟨l.wa, 5, none⟩ = some (.bool E.early)) ∧ (l.g < w1.heap.size ∧ l.wa < w1.heap.size) ∧ (∀ b, w.heap.size ≤ b → b < W.heap.size → ¬ l'.own b ∧ w1.heap[b]? = W.heap[b]?) ∧ W.heap.size ≤ w1.heap.size := by
  obtain ⟨l', g, r, k⟩ := h
  have hlt := (Array.getElem?_eq_some_iff.1 hh).1
  have a1 := r.c_wa
  have a2 := r.c_early
  have a3 := r.g_q
  have a4 := r.wa_q
  rw [g.g, g.wa] at a1
  rw [g.wa] at a2 a4
  rw [g.g] at a3
  refine ⟨l', g.later kW.size, r, kW.trans k, (k.block w.heap.size hlt (hr.fresh _ (Nat.le_refl _))).trans hh, ⟨a1, a2⟩, ⟨a3, a4⟩, fun b hb hbW => ⟨fun x => ?_, k.block b hbW (hr.fresh _ hb)⟩, k.size⟩
  rcases g.own x with y | y
  · exact hr.fresh _ hb y
  · omega

/-- The cells of a cycle's variable. -/
def CyAt (w : World) (b : Nat) (k a d o : Int) : Prop := (w.cell? ⟨b, 0, none⟩ = some (.int .i64 k) ∧ w.cell? ⟨b, 1, none⟩ = some (.int .i64 a) ∧ w.cell? ⟨b, 2, none⟩ = some (.int .u8 d) ∧ w.cell? ⟨b, 3, none⟩ = some (.int .u8 o)) ∧ (w.frozen? ⟨b, 0, none⟩ = false ∧ w.frozen? ⟨b, 1, none⟩ = false ∧ w.frozen? ⟨b, 2, none⟩ = false ∧ w.frozen? ⟨b, 3, none⟩ = false) ∧ b < w.heap.size

theorem CyAt.of {w : World} {b : Nat} (h : w.heap[b]? = some zc) : CyAt w b 0 0 0 0 := zc_kept h (Kept.refl _ _)

theorem CyAt.kept {S : Nat → Prop} {w w' : World} {b : Nat} {k a d o : Int} (h : CyAt w b k a d o) (hk : Kept S w w') (hS : ¬ S b) : CyAt w' b k a d o := by
  obtain ⟨⟨a0, a1, a2, a3⟩, ⟨b0, b1, b2, b3⟩, hb⟩ := h
  obtain ⟨hc, hf⟩ := kcell hk hb hS
  exact ⟨⟨by rw [hc]; exact a0, by rw [hc]; exact a1, by rw [hc]; exact a2, by rw [hc]; exact a3⟩, ⟨by rw [hf]; exact b0, by rw [hf]; exact b1, by rw [hf]; exact b2, by rw [hf]; exact b3⟩, Nat.lt_of_lt_of_le hb hk.size⟩

set_option maxRecDepth 100000 in
set_option maxHeartbeats 2000000 in
theorem xrun_norm {n : Nat} (hn : n < 4611686018427387903) {l : XL} {st : St} {ex : Ext} {w : World} (hr : XRep l st ex w) (hi : Inv st) (h : Rel n st ex) (hb : st.bank = 0 ∨ st.bank = 1) (hl : st.left = 0) (hrst : st.rst = 0) (p : Int) (hp : st.inp = p) (C : Cy) (T : St) (hT : st.works = (T, C)) (h0 : T.rst = 0) (hiT : Inv T) (hbT : T.bank = 0 ∨ T.bank = 1) (hlT : T.left = 0) :
    Calls Tryz.prog 68 #[.pointer (some ⟨l.g, 0, none⟩), .int .u8 p] w fun e w' => e = .returned (.agg #[.int .i64 C.kind, .int .i64 C.addr, .int .u8 C.data, .int .u8 0]) ∧ ∃ F, Went l T.ticks.ages F w w' ∧ XOk (n + 1) T.ticks.ages F := by
  have hfr := hr.fresh
  have c1 := hr.c_po
  have c2 := hr.c_inp
  have f2 := hr.f_inp
  have c3 := hr.c_bus
  have c4 := hr.c_tm
  have c5 := hr.c_flag
  have hgl := hr.g_q
  have htl := hr.tm_q
  have hpl := hr.po_q
  have hwl := hr.wa_q
  have hr2 := (hr.set_inp p).alloc zc
  have h2 : Rel n st { ex with inp := p } := ⟨h.clk.as rfl rfl rfl rfl rfl rfl, h.due, h.ph.as rfl rfl rfl rfl rfl rfl rfl rfl, h.early⟩
  have hpt : l.po ≠ l.tm := fun e => absurd (hr.inj 7 5 (by omega) (by omega) e) (by decide)
  have hpg : l.po ≠ l.g := fun e => absurd (hr.inj 7 1 (by omega) (by omega) e) (by decide)
  have HC : ∀ W, Kept (fun _ => False) ((w.setCell ⟨l.po, 1, none⟩ (.int .u8 p)).alloc zc) W → Calls Tryz.prog 78 #[.pointer (some ⟨l.g, 0, none⟩), .iface 135 (.slice (some ⟨l.bs, 0, none⟩) 7 7), .bool st.flag] W fun e w' => e = .returned (.agg #[.int .i64 C.kind, .int .i64 C.addr, .int .u8 C.data, .int .u8 0]) ∧ ∃ E, Went l T E W w' ∧ Rel n T E := fun W hW => by
    refine (zCycle_any (by omega) (hr2.kept hW (fun _ _ x => x)) hi h2 hb hp.symm hrst).mono fun e w' hc => ?_
    have q := zCycle_norm hc (by rw [hT]; exact h0)
    rw [hT] at q
    exact q
  have k0 : Kept l.own w ((w.setCell ⟨l.po, 1, none⟩ (.int .u8 p)).alloc zc) := ((Kept.refl _ _).po _ _).alloc _
  have H1 : Hid (Calls Tryz.prog 78 #[.pointer (some ⟨l.g, 0, none⟩), .iface 135 (.slice (some ⟨l.bs, 0, none⟩) 7 7), .bool st.flag] ((w.setCell ⟨l.po, 1, none⟩ (.int .u8 p)).alloc (.cells #[.int .i64 0, .int .i64 0, .int .u8 0, .int .u8 0] 54)).drew fun e w' => e = .returned (.agg #[.int .i64 C.kind, .int .i64 C.addr, .int .u8 C.data, .int .u8 0]) ∧ ∃ (l' : XL) (E : Ext), Grew l l' w ∧ XRep l' T E w' ∧ Kept l.own w w' ∧ CyAt w' w.heap.size 0 0 0 0 ∧ (w'.cell? ⟨l.g, 14, none⟩ = some (.pointer (some ⟨l.wa, 0, none⟩)) ∧ w'.cell? ⟨l.wa, 5, none⟩ = some (.bool false)) ∧ (l.g < w'.heap.size ∧ l.wa < w'.heap.size) ∧ ¬ l'.own w.heap.size ∧ Rel n T E) :=
    (HC _ ((Kept.refl _ _).drew)).mono fun e w' ⟨q1, E, q2, q3⟩ => by
      obtain ⟨l', g, r, k, hz, ⟨a1, a2⟩, a3, a4, a5⟩ := run_left hr (W := ((w.setCell ⟨l.po, 1, none⟩ (.int .u8 p)).alloc zc).drew) (run_world w l.po _) k0.drew q2
      rw [q3.early] at a2
      exact ⟨q1, l', E, g, r, k, CyAt.of hz, ⟨a1, a2⟩, a3, (a4 w.heap.size (Nat.le_refl _) (Array.getElem?_eq_some_iff.1 (run_world w l.po (.int .u8 p))).1).1, q3⟩
  have H2 : Hid (Calls Tryz.prog 78 #[.pointer (some ⟨l.g, 0, none⟩), .iface 135 (.slice (some ⟨l.bs, 0, none⟩) 7 7), .bool st.flag] (((w.setCell ⟨l.po, 1, none⟩ (.int .u8 p)).alloc (.cells #[.int .i64 0, .int .i64 0, .int .u8 0, .int .u8 0] 54)).alloc (.cells #[.int .i64 0, .int .i64 0, .int .u8 0, .int .u8 0] 54)).drew fun e w' => e = .returned (.agg #[.int .i64 C.kind, .int .i64 C.addr, .int .u8 C.data, .int .u8 0]) ∧ ∃ (l' : XL) (E : Ext), Grew l l' w ∧ XRep l' T E w' ∧ Kept l.own w w' ∧ CyAt w' w.heap.size 0 0 0 0 ∧ (w'.cell? ⟨l.g, 14, none⟩ = some (.pointer (some ⟨l.wa, 0, none⟩)) ∧ w'.cell? ⟨l.wa, 5, none⟩ = some (.bool false)) ∧ (l.g < w'.heap.size ∧ l.wa < w'.heap.size) ∧ ¬ l'.own w.heap.size ∧ Rel n T E ∧ CyAt w' (w.heap.size + 1) 0 0 0 0 ∧ ¬ l'.own (w.heap.size + 1)) :=
    (HC _ (((Kept.refl _ _).alloc zc).drew)).mono fun e w' ⟨q1, E, q2, q3⟩ => by
      obtain ⟨rw1, rw2⟩ := run_world2 w l.po (.int .u8 p)
      obtain ⟨l', g, r, k, hz, ⟨a1, a2⟩, a3, a4, a5⟩ := run_left hr (W := (((w.setCell ⟨l.po, 1, none⟩ (.int .u8 p)).alloc zc).alloc zc).drew) rw1 (k0.alloc zc).drew q2
      rw [q3.early] at a2
      have b1 := (Array.getElem?_eq_some_iff.1 rw1).1
      have b2 := (Array.getElem?_eq_some_iff.1 rw2).1
      exact ⟨q1, l', E, g, r, k, CyAt.of hz, ⟨a1, a2⟩, a3, (a4 w.heap.size (Nat.le_refl _) b1).1, q3, CyAt.of ((a4 (w.heap.size + 1) (by omega) b2).2.trans rw2), (a4 (w.heap.size + 1) (by omega) b2).1⟩
  clear HC hr2
  have HW : Hid _ := hT
  clear hT hp hl hrst h0
  go_enter Tryz.func68, Tryz.ntmps68
  go_wp2
  go_region_with (first | (go_at_call 78; refine Calls.mono H1.out ?_; rintro e w1 ⟨rfl, l', E, gl, rl, kl, ⟨⟨x0, x1, x2, x3⟩, ⟨y0, y1, y2, y3⟩, hz⟩, ⟨a1, a2⟩, ⟨hg1, hw1⟩, hno, hrel⟩) | (go_at_call 78; refine Calls.mono H2.out ?_; rintro e w1 ⟨rfl, l', E, gl, rl, kl, ⟨⟨x0, x1, x2, x3⟩, ⟨y0, y1, y2, y3⟩, hz⟩, ⟨a1, a2⟩, ⟨hg1, hw1⟩, hno, hrel, ⟨⟨u0, u1, u2, u3⟩, ⟨v0, v1, v2, v3⟩, hz2⟩, hno2⟩))
  all_goals
    first
    | (obtain ⟨WW, hWW⟩ : ∃ WW, WW = w1.alloc (.cells #[.int .i64 C.kind, .int .i64 C.addr, .int .u8 C.data, .int .u8 0] 54) := ⟨_, rfl⟩
       rw [← hWW]
       obtain ⟨b, hb⟩ : ∃ b, b = w1.heap.size := ⟨_, rfl⟩
       have rW : XRep l' T E WW := by rw [hWW]; exact rl.alloc _
       have kW : Kept l.own w WW := by rw [hWW]; exact kl.alloc _
       have zW : CyAt WW w.heap.size 0 0 0 0 := by rw [hWW]; exact CyAt.kept (S := fun _ => False) ⟨⟨x0, x1, x2, x3⟩, ⟨y0, y1, y2, y3⟩, hz⟩ ((Kept.refl _ _).alloc _) (fun x => x)
       have bW : CyAt WW b C.kind C.addr C.data 0 := by
         rw [hWW, hb]
         exact ⟨⟨by simp [go_sem], by simp [go_sem], by simp [go_sem], by simp [go_sem]⟩, ⟨by simp [go_sem], by simp [go_sem], by simp [go_sem], by simp [go_sem]⟩, by simp⟩
       have nW : ¬ l'.own b := by rw [hb]; exact rl.fresh _ (Nat.le_refl _)
       have aW : WW.cell? ⟨l.g, 14, none⟩ = some (.pointer (some ⟨l.wa, 0, none⟩)) ∧ WW.cell? ⟨l.wa, 5, none⟩ = some (.bool false) := by
         rw [hWW]
         exact ⟨by rw [World.cell?_alloc_past _ _ _ hg1]; exact a1, by rw [World.cell?_alloc_past _ _ _ hw1]; exact a2⟩
       have wlt : w.heap.size < b := by rw [hb]; exact hz
       rw [← hb]
       clear hWW hb)
    | (obtain ⟨WW, hWW⟩ : ∃ WW, WW = (((w1.setCell ⟨w.heap.size + 1, 0, none⟩ (.int .i64 C.kind)).setCell ⟨w.heap.size + 1, 1, none⟩ (.int .i64 C.addr)).setCell ⟨w.heap.size + 1, 2, none⟩ (.int .u8 C.data)).setCell ⟨w.heap.size + 1, 3, none⟩ (.int .u8 0) := ⟨_, rfl⟩
       rw [← hWW]
       obtain ⟨b, hb⟩ : ∃ b, b = w.heap.size + 1 := ⟨_, rfl⟩
       have kk : Kept (fun k => k = w.heap.size + 1) w1 WW := by
         rw [hWW]
         exact ((((Kept.refl (fun k => k = w.heap.size + 1) w1).setCell (b := w.heap.size + 1) (Or.inl rfl) _).setCell (b := w.heap.size + 1) (Or.inl rfl) _).setCell (b := w.heap.size + 1) (Or.inl rfl) _).setCell (b := w.heap.size + 1) (Or.inl rfl) _
       have rW : XRep l' T E WW := rl.kept kk (fun k hk x => hno2 (x ▸ hk))
       have kW : Kept l.own w WW := by
         rw [hWW]
         exact (((kl.setCell (b := w.heap.size + 1) (Or.inr (by omega)) _).setCell (b := w.heap.size + 1) (Or.inr (by omega)) _).setCell (b := w.heap.size + 1) (Or.inr (by omega)) _).setCell (b := w.heap.size + 1) (Or.inr (by omega)) _
       have zW : CyAt WW w.heap.size 0 0 0 0 := CyAt.kept ⟨⟨x0, x1, x2, x3⟩, ⟨y0, y1, y2, y3⟩, hz⟩ kk (by omega)
       have bW : CyAt WW b C.kind C.addr C.data 0 := by
         rw [hWW, hb]
         exact ⟨⟨by simp [go_sem, u0], by simp [go_sem, u1], by simp [go_sem, u2], by simp [go_sem, u3]⟩, ⟨by simp [go_sem, v0], by simp [go_sem, v1], by simp [go_sem, v2], by simp [go_sem, v3]⟩, by simp [World.setCell]; omega⟩
       have nW : ¬ l'.own b := by rw [hb]; exact hno2
       have aW : WW.cell? ⟨l.g, 14, none⟩ = some (.pointer (some ⟨l.wa, 0, none⟩)) ∧ WW.cell? ⟨l.wa, 5, none⟩ = some (.bool false) := ⟨by rw [kk.cell hg1 (by omega)]; exact a1, by rw [kk.cell hw1 (by omega)]; exact a2⟩
       have wlt : w.heap.size < b := by omega
       rw [← hb]
       clear hWW hb kk u0 u1 u2 u3 v0 v1 v2 v3 hz2 hno2)
    obtain ⟨a13, a5⟩ := aW
    clear x0 x1 x2 x3 y0 y1 y2 y3 hz a1 a2 hg1 hw1 rl kl
    have htick := xtick_any hn rW hiT hrel hbT hlT
    rw [gl.g] at htick
    have HT : Hid _ := htick
    clear htick
    go_wp2_with fail
    refine Calls.mono HT.out ?_
    rintro e w3 ⟨rfl, F, ⟨l3, g3, r3, k3⟩, hok⟩
    obtain ⟨⟨m0, m1, m2, m3⟩, ⟨n0, n1, n2, n3⟩, hm⟩ := zW.kept k3 hno
    obtain ⟨⟨o0, o1, o2, o3⟩, _, ho⟩ := bW.kept k3 nW
    have hb0 := bW.2.2
    have hno3 : ¬ l3.own w.heap.size := fun x => by
      rcases g3.own x with y | y
      · exact hno y
      · omega
    have g4 : Grew l l3 w := gl.trans kW.size g3
    have k4 : Kept l.own w w3 := gl.kept kW.size kW k3
    clear HT k3 g3 zW bW
    go_wp2
    refine bodyPost_ret (v := .agg #[.int .i64 C.kind, .int .i64 C.addr, .int .u8 C.data, .int .u8 0]) (by simp [results, Tryz.results68, go_sem, m0, m1, m2, m3]) rfl ⟨rfl, F, ⟨l3, g4, ?r, ?k⟩, hok⟩
    case r => repeat (with_reducible first | apply XRep.drew | apply XRep.drewN | apply XRep.alloc | refine XRep.other ?_ hno3 _ | exact r3)
    case k =>
      have k2 := k4
      (repeat (with_reducible first | apply Kept.alloc | apply Kept.drewN | apply Kept.drew | apply Kept.nb | apply Kept.g | apply Kept.bs | apply Kept.ck | apply Kept.bk | apply Kept.tm | apply Kept.wa | apply Kept.po | apply Kept.up | apply Kept.re | apply Kept.me | refine Kept.setCell ?_ (Or.inr (Nat.le_refl _)) _ | refine Kept.setCell ?_ (Or.inr (by omega)) _ | exact k1 | exact k2 | exact k3 | exact Kept.refl _ _))

end Go.Proofs.YtikdbpphbdbdnaaGreat

/- The program's board: a cycle in which the watch is fed too early; a trap. -/
namespace Go.Proofs.YtikdbpphbdbdnaaGreat
open Go.RowKit
set_option linter.unusedVariables false

set_option maxRecDepth 100000 in
set_option maxHeartbeats 2000000 in
theorem xrun_soon {n : Nat} (hn : n < 4611686018427387903) {l : XL} {st : St} {ex : Ext} {w : World} (hr : XRep l st ex w) (hi : Inv st) (h : Rel n st ex) (hb : st.bank = 0 ∨ st.bank = 1) (hl : st.left = 0) (hrst : st.rst = 0) (p : Int) (hp : st.inp = p) (C : Cy) (hC : st.works.2 = C) (h0 : st.works.1.rst = 3) :
    Calls Tryz.prog 68 #[.pointer (some ⟨l.g, 0, none⟩), .int .u8 p] w fun e w' => e = .returned (.agg #[.int .i64 C.kind, .int .i64 C.addr, .int .u8 C.data, .int .u8 0]) ∧ ∃ (S : St) (F : Ext), st.works.1 = S.reset 3 ∧ Went l (S.reset 3) F w w' ∧ XOk (n + 1) (S.reset 3) F := by
  have hfr := hr.fresh
  have c1 := hr.c_po
  have c2 := hr.c_inp
  have f2 := hr.f_inp
  have c3 := hr.c_bus
  have c4 := hr.c_tm
  have c5 := hr.c_flag
  have hgl := hr.g_q
  have htl := hr.tm_q
  have hpl := hr.po_q
  have hwl := hr.wa_q
  have hr2 := (hr.set_inp p).alloc zc
  have h2 : Rel n st { ex with inp := p } := ⟨h.clk.as rfl rfl rfl rfl rfl rfl, h.due, h.ph.as rfl rfl rfl rfl rfl rfl rfl rfl, h.early⟩
  have hpt : l.po ≠ l.tm := fun e => absurd (hr.inj 7 5 (by omega) (by omega) e) (by decide)
  have hpg : l.po ≠ l.g := fun e => absurd (hr.inj 7 1 (by omega) (by omega) e) (by decide)
  have HC : ∀ W, Kept (fun _ => False) ((w.setCell ⟨l.po, 1, none⟩ (.int .u8 p)).alloc zc) W → Calls Tryz.prog 78 #[.pointer (some ⟨l.g, 0, none⟩), .iface 135 (.slice (some ⟨l.bs, 0, none⟩) 7 7), .bool st.flag] W fun e w' => e = .returned (.agg #[.int .i64 C.kind, .int .i64 C.addr, .int .u8 C.data, .int .u8 0]) ∧ ∃ (T : St) (E : Ext), st.works.1 = T.reset 3 ∧ Went l T E W w' ∧ E.early = true ∧ T.bank = st.bank ∧ Clk n T E ∧ DsOk E.due := fun W hW => by
    refine (zCycle_any (by omega) (hr2.kept hW (fun _ _ x => x)) hi h2 hb hp.symm hrst).mono fun e w' hc => ?_
    have q := zCycle_soon hc h0
    rw [hC] at q
    exact q
  have k0 : Kept l.own w ((w.setCell ⟨l.po, 1, none⟩ (.int .u8 p)).alloc zc) := ((Kept.refl _ _).po _ _).alloc _
  have H1 : Hid (Calls Tryz.prog 78 #[.pointer (some ⟨l.g, 0, none⟩), .iface 135 (.slice (some ⟨l.bs, 0, none⟩) 7 7), .bool st.flag] ((w.setCell ⟨l.po, 1, none⟩ (.int .u8 p)).alloc (.cells #[.int .i64 0, .int .i64 0, .int .u8 0, .int .u8 0] 54)).drew fun e w' => e = .returned (.agg #[.int .i64 C.kind, .int .i64 C.addr, .int .u8 C.data, .int .u8 0]) ∧ ∃ (l' : XL) (T : St) (E : Ext), Grew l l' w ∧ XRep l' T E w' ∧ Kept l.own w w' ∧ CyAt w' w.heap.size 0 0 0 0 ∧ (w'.cell? ⟨l.g, 14, none⟩ = some (.pointer (some ⟨l.wa, 0, none⟩)) ∧ w'.cell? ⟨l.wa, 5, none⟩ = some (.bool true)) ∧ (l.g < w'.heap.size ∧ l.wa < w'.heap.size) ∧ ¬ l'.own w.heap.size ∧ (st.works.1 = T.reset 3 ∧ T.bank = st.bank ∧ Clk n T E ∧ DsOk E.due)) :=
    (HC _ ((Kept.refl _ _).drew)).mono fun e w' ⟨q1, T, E, qs, q2, q3, qb, qc, qd⟩ => by
      obtain ⟨l', g, r, k, hz, ⟨a1, a2⟩, a3, a4, a5⟩ := run_left hr (W := ((w.setCell ⟨l.po, 1, none⟩ (.int .u8 p)).alloc zc).drew) (run_world w l.po _) k0.drew q2
      rw [q3] at a2
      exact ⟨q1, l', T, E, g, r, k, CyAt.of hz, ⟨a1, a2⟩, a3, (a4 w.heap.size (Nat.le_refl _) (Array.getElem?_eq_some_iff.1 (run_world w l.po (.int .u8 p))).1).1, qs, qb, qc, qd⟩
  have H2 : Hid (Calls Tryz.prog 78 #[.pointer (some ⟨l.g, 0, none⟩), .iface 135 (.slice (some ⟨l.bs, 0, none⟩) 7 7), .bool st.flag] (((w.setCell ⟨l.po, 1, none⟩ (.int .u8 p)).alloc (.cells #[.int .i64 0, .int .i64 0, .int .u8 0, .int .u8 0] 54)).alloc (.cells #[.int .i64 0, .int .i64 0, .int .u8 0, .int .u8 0] 54)).drew fun e w' => e = .returned (.agg #[.int .i64 C.kind, .int .i64 C.addr, .int .u8 C.data, .int .u8 0]) ∧ ∃ (l' : XL) (T : St) (E : Ext), Grew l l' w ∧ XRep l' T E w' ∧ Kept l.own w w' ∧ CyAt w' w.heap.size 0 0 0 0 ∧ (w'.cell? ⟨l.g, 14, none⟩ = some (.pointer (some ⟨l.wa, 0, none⟩)) ∧ w'.cell? ⟨l.wa, 5, none⟩ = some (.bool true)) ∧ (l.g < w'.heap.size ∧ l.wa < w'.heap.size) ∧ ¬ l'.own w.heap.size ∧ (st.works.1 = T.reset 3 ∧ T.bank = st.bank ∧ Clk n T E ∧ DsOk E.due) ∧ CyAt w' (w.heap.size + 1) 0 0 0 0 ∧ ¬ l'.own (w.heap.size + 1)) :=
    (HC _ (((Kept.refl _ _).alloc zc).drew)).mono fun e w' ⟨q1, T, E, qs, q2, q3, qb, qc, qd⟩ => by
      obtain ⟨rw1, rw2⟩ := run_world2 w l.po (.int .u8 p)
      obtain ⟨l', g, r, k, hz, ⟨a1, a2⟩, a3, a4, a5⟩ := run_left hr (W := (((w.setCell ⟨l.po, 1, none⟩ (.int .u8 p)).alloc zc).alloc zc).drew) rw1 (k0.alloc zc).drew q2
      rw [q3] at a2
      have b1 := (Array.getElem?_eq_some_iff.1 rw1).1
      have b2 := (Array.getElem?_eq_some_iff.1 rw2).1
      exact ⟨q1, l', T, E, g, r, k, CyAt.of hz, ⟨a1, a2⟩, a3, (a4 w.heap.size (Nat.le_refl _) b1).1, ⟨qs, qb, qc, qd⟩, CyAt.of ((a4 (w.heap.size + 1) (by omega) b2).2.trans rw2), (a4 (w.heap.size + 1) (by omega) b2).1⟩
  clear HC hr2
  have HB : Hid _ := hb
  clear hC hp hl hrst h0 hb
  go_enter Tryz.func68, Tryz.ntmps68
  go_wp2
  go_region_with (first | (go_at_call 78; refine Calls.mono H1.out ?_; rintro e w1 ⟨rfl, l', T, E, gl, rl, kl, ⟨⟨x0, x1, x2, x3⟩, ⟨y0, y1, y2, y3⟩, hz⟩, ⟨a1, a2⟩, ⟨hg1, hw1⟩, hno, hrel⟩) | (go_at_call 78; refine Calls.mono H2.out ?_; rintro e w1 ⟨rfl, l', T, E, gl, rl, kl, ⟨⟨x0, x1, x2, x3⟩, ⟨y0, y1, y2, y3⟩, hz⟩, ⟨a1, a2⟩, ⟨hg1, hw1⟩, hno, hrel, ⟨⟨u0, u1, u2, u3⟩, ⟨v0, v1, v2, v3⟩, hz2⟩, hno2⟩))
  all_goals
    first
    | (obtain ⟨WW, hWW⟩ : ∃ WW, WW = w1.alloc (.cells #[.int .i64 C.kind, .int .i64 C.addr, .int .u8 C.data, .int .u8 0] 54) := ⟨_, rfl⟩
       rw [← hWW]
       obtain ⟨b, hb⟩ : ∃ b, b = w1.heap.size := ⟨_, rfl⟩
       have rW : XRep l' T E WW := by rw [hWW]; exact rl.alloc _
       have kW : Kept l.own w WW := by rw [hWW]; exact kl.alloc _
       have zW : CyAt WW w.heap.size 0 0 0 0 := by rw [hWW]; exact CyAt.kept (S := fun _ => False) ⟨⟨x0, x1, x2, x3⟩, ⟨y0, y1, y2, y3⟩, hz⟩ ((Kept.refl _ _).alloc _) (fun x => x)
       have bW : CyAt WW b C.kind C.addr C.data 0 := by
         rw [hWW, hb]
         exact ⟨⟨by simp [go_sem], by simp [go_sem], by simp [go_sem], by simp [go_sem]⟩, ⟨by simp [go_sem], by simp [go_sem], by simp [go_sem], by simp [go_sem]⟩, by simp⟩
       have nW : ¬ l'.own b := by rw [hb]; exact rl.fresh _ (Nat.le_refl _)
       have aW : WW.cell? ⟨l.g, 14, none⟩ = some (.pointer (some ⟨l.wa, 0, none⟩)) ∧ WW.cell? ⟨l.wa, 5, none⟩ = some (.bool true) := by
         rw [hWW]
         exact ⟨by rw [World.cell?_alloc_past _ _ _ hg1]; exact a1, by rw [World.cell?_alloc_past _ _ _ hw1]; exact a2⟩
       have wlt : w.heap.size < b := by rw [hb]; exact hz
       rw [← hb]
       clear hWW hb)
    | (obtain ⟨WW, hWW⟩ : ∃ WW, WW = (((w1.setCell ⟨w.heap.size + 1, 0, none⟩ (.int .i64 C.kind)).setCell ⟨w.heap.size + 1, 1, none⟩ (.int .i64 C.addr)).setCell ⟨w.heap.size + 1, 2, none⟩ (.int .u8 C.data)).setCell ⟨w.heap.size + 1, 3, none⟩ (.int .u8 0) := ⟨_, rfl⟩
       rw [← hWW]
       obtain ⟨b, hb⟩ : ∃ b, b = w.heap.size + 1 := ⟨_, rfl⟩
       have kk : Kept (fun k => k = w.heap.size + 1) w1 WW := by
         rw [hWW]
         exact ((((Kept.refl (fun k => k = w.heap.size + 1) w1).setCell (b := w.heap.size + 1) (Or.inl rfl) _).setCell (b := w.heap.size + 1) (Or.inl rfl) _).setCell (b := w.heap.size + 1) (Or.inl rfl) _).setCell (b := w.heap.size + 1) (Or.inl rfl) _
       have rW : XRep l' T E WW := rl.kept kk (fun k hk x => hno2 (x ▸ hk))
       have kW : Kept l.own w WW := by
         rw [hWW]
         exact (((kl.setCell (b := w.heap.size + 1) (Or.inr (by omega)) _).setCell (b := w.heap.size + 1) (Or.inr (by omega)) _).setCell (b := w.heap.size + 1) (Or.inr (by omega)) _).setCell (b := w.heap.size + 1) (Or.inr (by omega)) _
       have zW : CyAt WW w.heap.size 0 0 0 0 := CyAt.kept ⟨⟨x0, x1, x2, x3⟩, ⟨y0, y1, y2, y3⟩, hz⟩ kk (by omega)
       have bW : CyAt WW b C.kind C.addr C.data 0 := by
         rw [hWW, hb]
         exact ⟨⟨by simp [go_sem, u0], by simp [go_sem, u1], by simp [go_sem, u2], by simp [go_sem, u3]⟩, ⟨by simp [go_sem, v0], by simp [go_sem, v1], by simp [go_sem, v2], by simp [go_sem, v3]⟩, by simp [World.setCell]; omega⟩
       have nW : ¬ l'.own b := by rw [hb]; exact hno2
       have aW : WW.cell? ⟨l.g, 14, none⟩ = some (.pointer (some ⟨l.wa, 0, none⟩)) ∧ WW.cell? ⟨l.wa, 5, none⟩ = some (.bool true) := ⟨by rw [kk.cell hg1 (by omega)]; exact a1, by rw [kk.cell hw1 (by omega)]; exact a2⟩
       have wlt : w.heap.size < b := by omega
       rw [← hb]
       clear hWW hb kk u0 u1 u2 u3 v0 v1 v2 v3 hz2 hno2)
    obtain ⟨a13, a5⟩ := aW
    clear x0 x1 x2 x3 y0 y1 y2 y3 hz a1 a2 hg1 hw1 rl kl
    obtain ⟨hqs, hqb, hqc, hqd⟩ := hrel
    have hre := xreset_yes rW 3 (Or.inr (Or.inl rfl)) (by rw [hqb]; exact HB.out)
    rw [gl.g] at hre
    have HT : Hid _ := hre
    have HQ : Hid _ := hqs
    clear hre hqs
    go_wp2_with fail
    refine Calls.mono HT.out ?_
    rintro e w3 ⟨rfl, r3, k3⟩
    obtain ⟨⟨m0, m1, m2, m3⟩, ⟨n0, n1, n2, n3⟩, hm⟩ := zW.kept k3 hno
    obtain ⟨⟨o0, o1, o2, o3⟩, _, ho⟩ := bW.kept k3 nW
    have k4 : Kept l.own w w3 := gl.kept kW.size kW k3
    clear HT k3 zW bW
    go_wp2
    refine bodyPost_ret (v := .agg #[.int .i64 C.kind, .int .i64 C.addr, .int .u8 C.data, .int .u8 0]) (by simp [results, Tryz.results68, go_sem, m0, m1, m2, m3]) rfl ⟨rfl, T, E, HQ.out, ⟨l', gl, ?r, ?k⟩, XOk.reset (hqc.more (Nat.le_succ _)) hqd 3⟩
    case r => repeat (with_reducible first | apply XRep.drew | apply XRep.drewN | apply XRep.alloc | refine XRep.other ?_ hno _ | exact r3)
    case k =>
      have k2 := k4
      (repeat (with_reducible first | apply Kept.alloc | apply Kept.drewN | apply Kept.drew | apply Kept.nb | apply Kept.g | apply Kept.bs | apply Kept.ck | apply Kept.bk | apply Kept.tm | apply Kept.wa | apply Kept.po | apply Kept.up | apply Kept.re | apply Kept.me | refine Kept.setCell ?_ (Or.inr (Nat.le_refl _)) _ | refine Kept.setCell ?_ (Or.inr (by omega)) _ | exact k1 | exact k2 | exact k3 | exact Kept.refl _ _))

end Go.Proofs.YtikdbpphbdbdnaaGreat
