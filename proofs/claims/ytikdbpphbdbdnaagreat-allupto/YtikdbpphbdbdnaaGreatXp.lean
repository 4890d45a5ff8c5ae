/- Of several texts, one behind the other. -/
import Derived.Test.YtikdbpphbdbdnaaGreatXk
import Derived.Test.YtikdbpphbdbdnaaGreatXc
/- The program's processor: a byte is read at PC. -/
namespace Go.Proofs.YtikdbpphbdbdnaaGreat
open Go.RowKit
set_option linter.unusedVariables false
set_option linter.unusedSimpArgs false

theorem bus_nil (a : Addr) (n c : Nat) (s : World) : (nilAhead 310 135 (.slice (some a) n c) "Read").run Tryz.prog s = .ok (some false) s := by kernel_rfl
theorem bus_nilW (a : Addr) (n c : Nat) (s : World) : (nilAhead 310 135 (.slice (some a) n c) "Write").run Tryz.prog s = .ok (some false) s := by kernel_rfl
theorem bus_read (a : Addr) (n c : Nat) (s : World) : (method 310 135 (.slice (some a) n c) "Read").run Tryz.prog s = .ok (138, .slice (some a) n c) s := by kernel_rfl
theorem bus_write (a : Addr) (n c : Nat) (s : World) : (method 310 135 (.slice (some a) n c) "Write").run Tryz.prog s = .ok (139, .slice (some a) n c) s := by kernel_rfl

/-- What the processor's cycle asks of the board. -/
structure Runs (n : Nat) (st : St) (ex : Ext) : Prop where
  hn : n < 4611686018427387904
  hi : Inv st
  hc : Clk n st ex
  hd : DsOk ex.due
  hb : st.bank = 0 ∨ st.bank = 1
  hin : ex.inp = st.inp

/-- A cycle of which nothing is set. -/
def zc : Obj := .cells #[.int .i64 0, .int .i64 0, .int .u8 0, .int .u8 0] 54

/-- The cells of a new cycle's variable, kept. -/
theorem zc_kept {W w1 : World} {b : Nat} (hh : W.heap[b]? = some zc) (k : Kept (fun _ => False) W w1) :
    (w1.cell? ⟨b, 0, none⟩ = some (.int .i64 0) ∧ w1.cell? ⟨b, 1, none⟩ = some (.int .i64 0) ∧ w1.cell? ⟨b, 2, none⟩ = some (.int .u8 0) ∧ w1.cell? ⟨b, 3, none⟩ = some (.int .u8 0)) ∧ (w1.frozen? ⟨b, 0, none⟩ = false ∧ w1.frozen? ⟨b, 1, none⟩ = false ∧ w1.frozen? ⟨b, 2, none⟩ = false ∧ w1.frozen? ⟨b, 3, none⟩ = false) ∧ b < w1.heap.size := by
  have hb := (Array.getElem?_eq_some_iff.1 hh).1
  have h1 : w1.heap[b]? = some zc := (k.block b hb (fun x => x)).trans hh
  unfold zc at h1
  refine ⟨⟨?_, ?_, ?_, ?_⟩, ⟨?_, ?_, ?_, ?_⟩, (Array.getElem?_eq_some_iff.1 h1).1⟩
  all_goals first | simp [World.cell?, h1] | simp [World.frozen?, h1]

theorem heap_at (w : World) (o : Obj) : (w.alloc o).heap[w.heap.size]? = some o := by
  unfold World.alloc
  simp only [Array.getElem?_push_size]

theorem zc_new (w : World) : (w.alloc zc).heap[w.heap.size]? = some zc := heap_at w zc

theorem zc_new1 (w : World) (o : Obj) : ((w.alloc zc).alloc o).heap[w.heap.size]? = some zc := by
  rw [Below.heap_alloc _ _ _ (by rw [World.size_alloc]; omega)]
  exact zc_new w

theorem zc_new2 (w : World) (o : Obj) : ((w.alloc o).alloc zc).heap[w.heap.size + 1]? = some zc := by
  have h := zc_new (w.alloc o)
  rw [World.size_alloc] at h
  exact h

set_option maxRecDepth 100000 in
set_option maxHeartbeats 1000000 in
theorem zadv_any {n : Nat} {l : XL} {st : St} {ex : Ext} {w : World} (hr : XRep l st ex w) (h : Runs n st ex) (k : Int) :
    Calls Tryz.prog 100 #[.pointer (some ⟨l.g, 0, none⟩), .iface 135 (.slice (some ⟨l.bs, 0, none⟩) 7 7), .int .i64 k] w fun e w' => e = .returned (.agg #[.int .i64 k, .int .i64 st.pc, .int .u8 (st.read st.pc), .int .u8 0]) ∧ XRep l { st with pc := (st.pc + 1) % 256 } ex w' ∧ Kept l.own w w' := by
  obtain ⟨p0, p1⟩ := h.hi.pc
  have hfr := hr.fresh
  have hmf : ∀ (fn : Fn) (first cap : Array Value) (w : World), (Instr.makeFunc fn first cap).run Tryz.prog w = .ok (.func fn first cap) w := fun _ _ _ _ => rfl
  have hna := bus_nil
  have hme := bus_read
  have hwr : IntKind.i64.wrap st.pc = st.pc := by rw [IntKind.wrap_i64]; omega
  have HC : ∀ W, Kept (fun _ => False) w W → Calls Tryz.prog 138 #[.slice (some ⟨l.bs, 0, none⟩) 7 7, .int .u8 st.pc] W fun e w' => e = .returned (.int .u8 (st.read st.pc)) ∧ Kept (fun _ => False) w w' ∧ Kept (fun _ => False) W w' ∧ XRep l st ex w' := fun W hW => (bRead_any h.hn (hr.kept hW (fun _ _ x => x)) h.hi h.hc h.hb h.hin st.pc p0 p1).mono fun e w' ⟨h1, h2⟩ => ⟨h1, Kept.trans hW h2, h2, (hr.kept hW (fun _ _ x => x)).kept h2 (fun _ _ x => x)⟩
  have HS : Hid (∀ W, Kept (fun _ => False) w W → W.cell? ⟨l.g, 2, none⟩ = some (.int .u8 st.pc)) := fun W hW => (hr.kept hW (fun _ _ x => x)).c_pc
  have H1 : Hid (Calls Tryz.prog 138 #[.slice (some ⟨l.bs, 0, none⟩) 7 7, .int .u8 st.pc] (w.alloc (.cells #[.int .i64 0, .int .i64 0, .int .u8 0, .int .u8 0] 54)).drew fun e w' => e = .returned (.int .u8 (st.read st.pc)) ∧ Kept (fun _ => False) w w' ∧ XRep l st ex w' ∧ _) := (HC _ (((Kept.refl _ w).alloc zc).drew)).mono fun e w' ⟨h1, h2, h3, h4⟩ => ⟨h1, h2, h4, zc_kept (W := (w.alloc zc).drew) (b := w.heap.size) (zc_new w) h3⟩
  have H2 : Hid (Calls Tryz.prog 138 #[.slice (some ⟨l.bs, 0, none⟩) 7 7, .int .u8 st.pc] ((w.alloc (.cells #[.int .i64 0, .int .i64 0, .int .u8 0, .int .u8 0] 54)).alloc (.cells #[.int .i64 0, .int .i64 0, .int .u8 0, .int .u8 0] 54)).drew fun e w' => e = .returned (.int .u8 (st.read st.pc)) ∧ Kept (fun _ => False) w w' ∧ XRep l st ex w' ∧ _ ∧ _) := (HC _ ((((Kept.refl _ w).alloc zc).alloc zc).drew)).mono fun e w' ⟨h1, h2, h3, h4⟩ => ⟨h1, h2, h4, zc_kept (W := ((w.alloc zc).alloc zc).drew) (b := w.heap.size) (zc_new1 w _) h3, zc_kept (W := ((w.alloc zc).alloc zc).drew) (b := w.heap.size + 1) (zc_new2 w _) h3⟩
  clear HC
  have hgl := hr.g_q
  go_enter Tryz.func100, Tryz.ntmps100
  go_wp2
  go_region_held3 (fun W => W.cell? ⟨l.g, 2, none⟩ = some (.int .u8 st.pc)) (first | (apply HS.out; (repeat (with_reducible first | apply Kept.alloc | apply Kept.drewN | apply Kept.drew | apply Kept.nb | apply Kept.g | apply Kept.bs | apply Kept.ck | apply Kept.bk | apply Kept.tm | apply Kept.wa | apply Kept.po | apply Kept.up | apply Kept.re | apply Kept.me | refine Kept.setCell ?_ (Or.inr (Nat.le_refl _)) _ | refine Kept.setCell ?_ (Or.inr (by omega)) _ | exact k1 | exact k2 | exact k3 | exact Kept.refl _ _)); done) | go_keep) (first | (go_at_call 138; refine Calls.mono H1.out ?_; rintro e w1 ⟨rfl, k1, hr1, ⟨a0, a1, a2, a3⟩, ⟨b0, b1, b2, b3⟩, hz⟩) | (go_at_call 138; refine Calls.mono H2.out ?_; rintro e w1 ⟨rfl, k1, hr1, ⟨⟨a0, a1, a2, a3⟩, ⟨b0, b1, b2, b3⟩, hz⟩, ⟨a4, a5, a6, a7⟩, ⟨b4, b5, b6, b7⟩, hz2⟩))
  all_goals
    have d2 := hr1.c_pc
    have e2 := hr1.f_pc
    have hg1 := hr1.g_q
    go_wp2
    refine bodyPost_ret (v := .agg #[.int .i64 k, .int .i64 st.pc, .int .u8 (st.read st.pc), .int .u8 0]) (by simp [results, Tryz.results100, go_sem, a0, a1, a2, a3, hz, Nat.ne_of_lt hgl, Nat.ne_of_gt hgl]) rfl ⟨rfl, ?r, ?k⟩
    case r =>
      apply XRep.as
      · (repeat (with_reducible first | apply XRep.alloc | apply XRep.drewN | apply XRep.drew | apply XRep.set_a | apply XRep.set_x | apply XRep.set_pc | apply XRep.set_zero | apply XRep.set_carry | apply XRep.set_ph | apply XRep.set_op | apply XRep.set_addr | apply XRep.set_wait | apply XRep.set_down | apply XRep.set_left | apply XRep.set_now | apply XRep.set_s0 | apply XRep.set_s1 | apply XRep.set_bank | apply XRep.set_period | apply XRep.set_next | apply XRep.set_flag | apply XRep.set_fed | apply XRep.set_window | apply XRep.set_taken | apply XRep.set_key | apply XRep.set_early | apply XRep.set_out | apply XRep.set_inp | apply XRep.set_opn | apply XRep.set_place | apply XRep.set_cause | (apply XRep.other; case hb => exact hfr _ (by omega)) | exact hr | exact hr1 | exact hr2 | exact hr3))
      · rfl
      · rfl
    case k =>
      have k2 : Kept l.own w w1 := k1.wide (fun _ x => x.elim)
      clear k1
      (repeat (with_reducible first | apply Kept.alloc | apply Kept.drewN | apply Kept.drew | apply Kept.nb | apply Kept.g | apply Kept.bs | apply Kept.ck | apply Kept.bk | apply Kept.tm | apply Kept.wa | apply Kept.po | apply Kept.up | apply Kept.re | apply Kept.me | refine Kept.setCell ?_ (Or.inr (Nat.le_refl _)) _ | refine Kept.setCell ?_ (Or.inr (by omega)) _ | exact k1 | exact k2 | exact k3 | exact Kept.refl _ _))

end Go.Proofs.YtikdbpphbdbdnaaGreat

/- The program's processor: the first byte of an instruction. -/
namespace Go.Proofs.YtikdbpphbdbdnaaGreat
open Go.RowKit
set_option linter.unusedVariables false
set_option linter.unusedSimpArgs false

/-- The cycle that is seen. -/
def cyV (k a d : Int) : Value := .agg #[.int .i64 k, .int .i64 a, .int .u8 d, .int .u8 0]

set_option maxRecDepth 100000 in
set_option maxHeartbeats 1000000 in
theorem zfetch_trap {n : Nat} {l : XL} {st : St} {ex : Ext} {w : World} (hr : XRep l st ex w) (h : Runs n st ex) (d : Int) (hd : st.read st.pc = d) (d0 : 0 ≤ d) (d1 : d ≤ 255) (hs : shapeN d = 0) :
    Calls Tryz.prog 92 #[.pointer (some ⟨l.g, 0, none⟩), .iface 135 (.slice (some ⟨l.bs, 0, none⟩) 7 7)] w fun e w' => e = .panicked [{ v := .iface 150 (.agg #[.int .i64 3, .int .i64 st.pc, .int .u8 d, .int .u8 0]), recovered := false }] ∧ XRep l { st with pc := (st.pc + 1) % 256 } { ex with op := d } w' ∧ Kept l.own w w' := by
  have hfr := hr.fresh
  have hgl := hr.g_q
  have HA : Hid _ := fun o => zadv_any (hr.alloc o) h 3
  rw [hd] at HA
  have HS : Hid (shapeN d = 0) := hs
  clear hd hs
  go_enter Tryz.func92, Tryz.ntmps92
  go_wp2_with fail
  refine Calls.mono (HA.out _) ?_
  rintro e w1 ⟨rfl, hr1, k1⟩
  have c1 := hr1.c_op
  have f1 := hr1.f_op
  have hg1 := hr1.g_q
  go_wp2_with fail
  refine (zshape_any d _ d0).mono ?_
  rintro e w2 ⟨rfl, rfl⟩
  rw [HS.out]
  have k2 : Kept l.own w w1 := ((Kept.refl _ w).alloc _).trans k1
  clear k1
  go_wp2
  refine ⟨rfl, rfl, ?r, ?k⟩
  case r =>
    apply XRep.as
    · (repeat (with_reducible first | apply XRep.alloc | apply XRep.drewN | apply XRep.drew | apply XRep.set_a | apply XRep.set_x | apply XRep.set_pc | apply XRep.set_zero | apply XRep.set_carry | apply XRep.set_ph | apply XRep.set_op | apply XRep.set_addr | apply XRep.set_wait | apply XRep.set_down | apply XRep.set_left | apply XRep.set_now | apply XRep.set_s0 | apply XRep.set_s1 | apply XRep.set_bank | apply XRep.set_period | apply XRep.set_next | apply XRep.set_flag | apply XRep.set_fed | apply XRep.set_window | apply XRep.set_taken | apply XRep.set_key | apply XRep.set_early | apply XRep.set_out | apply XRep.set_inp | apply XRep.set_opn | apply XRep.set_place | apply XRep.set_cause | (apply XRep.other; case hb => exact hfr _ (by omega)) | exact hr | exact hr1 | exact hr2 | exact hr3))
    · rfl
    · rfl
  case k => (repeat (with_reducible first | apply Kept.alloc | apply Kept.drewN | apply Kept.drew | apply Kept.nb | apply Kept.g | apply Kept.bs | apply Kept.ck | apply Kept.bk | apply Kept.tm | apply Kept.wa | apply Kept.po | apply Kept.up | apply Kept.re | apply Kept.me | refine Kept.setCell ?_ (Or.inr (Nat.le_refl _)) _ | refine Kept.setCell ?_ (Or.inr (by omega)) _ | exact k1 | exact k2 | exact k3 | exact Kept.refl _ _))

/-- What is kept of a result's variable behind a call. -/
theorem own_zc {l : XL} {st : St} {ex : Ext} {w w1 : World} (hr : XRep l st ex w) (k : Kept l.own (w.alloc (.cells #[.int .i64 0, .int .i64 0, .int .u8 0, .int .u8 0] 54)) w1) :
    (w1.cell? ⟨w.heap.size, 0, none⟩ = some (.int .i64 0) ∧ w1.cell? ⟨w.heap.size, 1, none⟩ = some (.int .i64 0) ∧ w1.cell? ⟨w.heap.size, 2, none⟩ = some (.int .u8 0) ∧ w1.cell? ⟨w.heap.size, 3, none⟩ = some (.int .u8 0)) ∧ (w1.frozen? ⟨w.heap.size, 0, none⟩ = false ∧ w1.frozen? ⟨w.heap.size, 1, none⟩ = false ∧ w1.frozen? ⟨w.heap.size, 2, none⟩ = false ∧ w1.frozen? ⟨w.heap.size, 3, none⟩ = false) ∧ w.heap.size < w1.heap.size := by
  have h1 : w1.heap[w.heap.size]? = some zc := (k.block w.heap.size (by rw [World.size_alloc]; omega) (hr.fresh _ (Nat.le_refl _))).trans (heap_at w zc)
  unfold zc at h1
  refine ⟨⟨?_, ?_, ?_, ?_⟩, ⟨?_, ?_, ?_, ?_⟩, (Array.getElem?_eq_some_iff.1 h1).1⟩
  all_goals first | simp [World.cell?, h1] | simp [World.frozen?, h1]

set_option maxRecDepth 100000 in
set_option maxHeartbeats 1000000 in
theorem zfetch_more {n : Nat} {l : XL} {st : St} {ex : Ext} {w : World} (hr : XRep l st ex w) (h : Runs n st ex) (d : Int) (hd : st.read st.pc = d) (d0 : 0 ≤ d) (d1 : d ≤ 255) (hs0 : ¬ shapeN d = 0) (hs1 : ¬ shapeN d = 1) :
    Calls Tryz.prog 92 #[.pointer (some ⟨l.g, 0, none⟩), .iface 135 (.slice (some ⟨l.bs, 0, none⟩) 7 7)] w fun e w' => e = .returned (.agg #[.int .i64 3, .int .i64 st.pc, .int .u8 d, .int .u8 0]) ∧ XRep l { st with pc := (st.pc + 1) % 256 } { ex with op := d, ph := 1 } w' ∧ Kept l.own w w' := by
  have hfr := hr.fresh
  have hgl := hr.g_q
  have HA : Hid _ := fun o => zadv_any (hr.alloc o) h 3
  rw [hd] at HA
  have b0 : (shapeN d == 0) = false := by simpa using hs0
  have b1 : (shapeN d == 1) = false := by simpa using hs1
  clear hd hs0 hs1
  go_enter Tryz.func92, Tryz.ntmps92
  go_wp2_with fail
  refine Calls.mono (HA.out _) ?_
  rintro e w1 ⟨rfl, hr1, k1⟩
  obtain ⟨⟨a0, a1, a2, a3⟩, ⟨g0, g1, g2, g3⟩, hz⟩ := own_zc hr k1
  have c1 := hr1.c_op
  have f1 := hr1.f_op
  have c2 := hr1.c_ph
  have f2 := hr1.f_ph
  have hg1 := hr1.g_q
  have k2 : Kept l.own w w1 := ((Kept.refl _ w).alloc _).trans k1
  clear k1
  go_wp2_with fail
  refine (zshape_any d _ d0).mono ?_
  rintro e w2 ⟨rfl, rfl⟩
  go_wp2
  refine bodyPost_ret (v := .agg #[.int .i64 3, .int .i64 st.pc, .int .u8 d, .int .u8 0]) (by simp [results, Tryz.results92, go_sem, a0, a1, a2, a3, hz, Nat.ne_of_lt hgl, Nat.ne_of_gt hgl]) rfl ⟨rfl, ?r, ?k⟩
  case r =>
    apply XRep.as
    · (repeat (with_reducible first | apply XRep.alloc | apply XRep.drewN | apply XRep.drew | apply XRep.set_a | apply XRep.set_x | apply XRep.set_pc | apply XRep.set_zero | apply XRep.set_carry | apply XRep.set_ph | apply XRep.set_op | apply XRep.set_addr | apply XRep.set_wait | apply XRep.set_down | apply XRep.set_left | apply XRep.set_now | apply XRep.set_s0 | apply XRep.set_s1 | apply XRep.set_bank | apply XRep.set_period | apply XRep.set_next | apply XRep.set_flag | apply XRep.set_fed | apply XRep.set_window | apply XRep.set_taken | apply XRep.set_key | apply XRep.set_early | apply XRep.set_out | apply XRep.set_inp | apply XRep.set_opn | apply XRep.set_place | apply XRep.set_cause | (apply XRep.other; case hb => exact hfr _ (by omega)) | exact hr | exact hr1 | exact hr2 | exact hr3))
    · rfl
    · rfl
  case k => (repeat (with_reducible first | apply Kept.alloc | apply Kept.drewN | apply Kept.drew | apply Kept.nb | apply Kept.g | apply Kept.bs | apply Kept.ck | apply Kept.bk | apply Kept.tm | apply Kept.wa | apply Kept.po | apply Kept.up | apply Kept.re | apply Kept.me | refine Kept.setCell ?_ (Or.inr (Nat.le_refl _)) _ | refine Kept.setCell ?_ (Or.inr (by omega)) _ | exact k1 | exact k2 | exact k3 | exact Kept.refl _ _))

set_option maxRecDepth 100000 in
set_option maxHeartbeats 1000000 in
theorem zfetch_one {n : Nat} {l : XL} {st : St} {ex : Ext} {w : World} (hr : XRep l st ex w) (h : Runs n st ex) (d : Int) (hd : st.read st.pc = d) (d0 : 0 ≤ d) (d1 : d ≤ 255) (hs : shapeN d = 1) (hop : d = 0 ∨ d = 11 ∨ d = 12 ∨ d = 13 ∨ d = 14 ∨ d = 24) :
    Calls Tryz.prog 92 #[.pointer (some ⟨l.g, 0, none⟩), .iface 135 (.slice (some ⟨l.bs, 0, none⟩) 7 7)] w fun e w' => e = .returned (.agg #[.int .i64 3, .int .i64 st.pc, .int .u8 d, .int .u8 0]) ∧ XRep l (aloneS { st with pc := (st.pc + 1) % 256 } d) (aloneX { ex with op := d } d) w' ∧ Kept l.own w w' := by
  have hfr := hr.fresh
  have hgl := hr.g_q
  have HA : Hid _ := fun o => zadv_any (hr.alloc o) h 3
  rw [hd] at HA
  have hi1 : Inv { st with pc := (st.pc + 1) % 256 } := h.hi.next 3
  have HS : Hid (shapeN d = 1) := hs
  have HO : Hid _ := hop
  clear hd hs hop
  go_enter Tryz.func92, Tryz.ntmps92
  go_wp2_with fail
  refine Calls.mono (HA.out _) ?_
  rintro e w1 ⟨rfl, hr1, k1⟩
  obtain ⟨⟨a0, a1, a2, a3⟩, ⟨g0, g1, g2, g3⟩, hz⟩ := own_zc hr k1
  have c1 := hr1.c_op
  have f1 := hr1.f_op
  have hg1 := hr1.g_q
  have k2 : Kept l.own w w1 := ((Kept.refl _ w).alloc _).trans k1
  clear k1
  have HSI : Hid (∀ o, Calls Tryz.prog 105 #[.pointer (some ⟨l.g, 0, none⟩)] ((w1.setCell ⟨l.g, 6, none⟩ (.int .u8 d)).alloc o) fun e w' => e = .returned (.tuple #[]) ∧ XRep l (aloneS { st with pc := (st.pc + 1) % 256 } d) (aloneX { ex with op := d } d) w' ∧ Kept l.own ((w1.setCell ⟨l.g, 6, none⟩ (.int .u8 d)).alloc o) w') := fun o => zsingle_any ((hr1.set_op d).alloc o) hi1 d rfl HO.out
  have hfr1 := hr1.fresh
  go_wp2_with fail
  refine (zshape_any d _ d0).mono ?_
  rintro e w2 ⟨rfl, rfl⟩
  rw [HS.out]
  go_wp2_with fail
  refine Calls.mono (HSI.out _) ?_
  rintro e w3 ⟨rfl, hr3, k3⟩
  obtain ⟨hc, hf⟩ := kcell k3 (b := w.heap.size) (by simp; omega) (hfr _ (Nat.le_refl _))
  obtain ⟨hc2, hf2⟩ := kcell k3 (b := w1.heap.size) (by simp) (hfr1 _ (Nat.le_refl _))
  have hz3 : w1.heap.size < w3.heap.size := by have := k3.size; simp at this; omega
  have x0 : w3.cell? ⟨w.heap.size, 0, none⟩ = some (.int .i64 0) := by rw [hc]; simp [go_sem, a0, hz, Nat.ne_of_lt hgl, Nat.ne_of_gt hgl]
  have x1 : w3.cell? ⟨w.heap.size, 1, none⟩ = some (.int .i64 0) := by rw [hc]; simp [go_sem, a1, hz, Nat.ne_of_lt hgl, Nat.ne_of_gt hgl]
  have x2 : w3.cell? ⟨w.heap.size, 2, none⟩ = some (.int .u8 0) := by rw [hc]; simp [go_sem, a2, hz, Nat.ne_of_lt hgl, Nat.ne_of_gt hgl]
  have x3 : w3.cell? ⟨w.heap.size, 3, none⟩ = some (.int .u8 0) := by rw [hc]; simp [go_sem, a3, hz, Nat.ne_of_lt hgl, Nat.ne_of_gt hgl]
  have y0 : w3.frozen? ⟨w.heap.size, 0, none⟩ = false := by rw [hf]; simp [go_sem, g0, hz]
  have y1 : w3.frozen? ⟨w.heap.size, 1, none⟩ = false := by rw [hf]; simp [go_sem, g1, hz]
  have y2 : w3.frozen? ⟨w.heap.size, 2, none⟩ = false := by rw [hf]; simp [go_sem, g2, hz]
  have y3 : w3.frozen? ⟨w.heap.size, 3, none⟩ = false := by rw [hf]; simp [go_sem, g3, hz]
  have u0 : w3.cell? ⟨w1.heap.size, 0, none⟩ = some (.int .i64 3) := by rw [hc2]; simp [go_sem]
  have u1 : w3.cell? ⟨w1.heap.size, 1, none⟩ = some (.int .i64 st.pc) := by rw [hc2]; simp [go_sem]
  have u2 : w3.cell? ⟨w1.heap.size, 2, none⟩ = some (.int .u8 d) := by rw [hc2]; simp [go_sem]
  have u3 : w3.cell? ⟨w1.heap.size, 3, none⟩ = some (.int .u8 0) := by rw [hc2]; simp [go_sem]
  have k4 : Kept l.own w w3 := ((k2.g 6 (.int .u8 d)).alloc _).trans k3
  clear hc hf hc2 hf2 k3 k2
  go_wp2
  refine bodyPost_ret (v := .agg #[.int .i64 3, .int .i64 st.pc, .int .u8 d, .int .u8 0]) (by simp [results, Tryz.results92, go_sem, x0, x1, x2, x3]) rfl ⟨rfl, ?r, ?k⟩
  case r =>
    apply XRep.as
    · (repeat (with_reducible first | apply XRep.alloc | apply XRep.drewN | apply XRep.drew | apply XRep.set_a | apply XRep.set_x | apply XRep.set_pc | apply XRep.set_zero | apply XRep.set_carry | apply XRep.set_ph | apply XRep.set_op | apply XRep.set_addr | apply XRep.set_wait | apply XRep.set_down | apply XRep.set_left | apply XRep.set_now | apply XRep.set_s0 | apply XRep.set_s1 | apply XRep.set_bank | apply XRep.set_period | apply XRep.set_next | apply XRep.set_flag | apply XRep.set_fed | apply XRep.set_window | apply XRep.set_taken | apply XRep.set_key | apply XRep.set_early | apply XRep.set_out | apply XRep.set_inp | apply XRep.set_opn | apply XRep.set_place | apply XRep.set_cause | (apply XRep.other; case hb => exact hfr _ (by omega)) | exact hr | exact hr1 | exact hr2 | exact hr3))
    · rfl
    · rfl
  case k =>
    have k2 := k4
    (repeat (with_reducible first | apply Kept.alloc | apply Kept.drewN | apply Kept.drew | apply Kept.nb | apply Kept.g | apply Kept.bs | apply Kept.ck | apply Kept.bk | apply Kept.tm | apply Kept.wa | apply Kept.po | apply Kept.up | apply Kept.re | apply Kept.me | refine Kept.setCell ?_ (Or.inr (Nat.le_refl _)) _ | refine Kept.setCell ?_ (Or.inr (by omega)) _ | exact k1 | exact k2 | exact k3 | exact Kept.refl _ _))

end Go.Proofs.YtikdbpphbdbdnaaGreat

/- The program's processor: the operand; the byte that an instruction asks for. -/
namespace Go.Proofs.YtikdbpphbdbdnaaGreat
open Go.RowKit
set_option linter.unusedVariables false
set_option linter.unusedSimpArgs false

set_option maxRecDepth 100000 in
set_option maxHeartbeats 1000000 in
theorem zoperand_more {n : Nat} {l : XL} {st : St} {ex : Ext} {w : World} (hr : XRep l st ex w) (h : Runs n st ex) (op d : Int) (hop : ex.op = op) (o0 : 0 ≤ op) (hd : st.read st.pc = d) (d0 : 0 ≤ d) (d1 : d ≤ 255) (hs : ¬ shapeN op = 2) :
    Calls Tryz.prog 90 #[.pointer (some ⟨l.g, 0, none⟩), .iface 135 (.slice (some ⟨l.bs, 0, none⟩) 7 7)] w fun e w' => e = .returned (.agg #[.int .i64 4, .int .i64 st.pc, .int .u8 d, .int .u8 0]) ∧ XRep l { st with pc := (st.pc + 1) % 256 } { ex with ph := 2, addr := if indexedB op = true then (d + st.x) % 256 else d } w' ∧ Kept l.own w w' := by
  have hfr := hr.fresh
  have hgl := hr.g_q
  have HA : Hid _ := fun o => zadv_any (hr.alloc o) h 4
  rw [hd] at HA
  have b2 : (shapeN op == 2) = false := by simpa using hs
  obtain ⟨x0, x1⟩ := h.hi.x
  have HO : Hid (ex.op = op) := hop
  clear hd hs hop
  cases hx : indexedB op
  · have HX : Hid _ := hx
    have HQ : Hid (∀ (A B : Int), (if indexedB op = true then A else B) = B) := fun A B => by rw [hx]; rfl
    clear hx
    go_enter Tryz.func90, Tryz.ntmps90
    go_wp2_with fail
    refine Calls.mono (HA.out _) ?_
    rintro e w1 ⟨rfl, hr1, k1⟩
    obtain ⟨⟨a0, a1, a2, a3⟩, ⟨g0, g1, g2, g3⟩, hz⟩ := own_zc hr k1
    have c1 := hr1.c_op
    have e1 : ex.op = op := HO.out
    rw [e1] at c1
    clear e1
    have c2 := hr1.c_ph
    have f2 := hr1.f_ph
    have c3 := hr1.c_addr
    have f3 := hr1.f_addr
    have hg1 := hr1.g_q
    have k2 : Kept l.own w w1 := ((Kept.refl _ w).alloc _).trans k1
    clear k1
    go_wp2_with fail
    refine (zshape_any op _ o0).mono ?_
    rintro e w2 ⟨rfl, rfl⟩
    go_wp2_with fail
    refine (zindexed_any op _).mono ?_
    rintro e w2 ⟨rfl, rfl⟩
    rw [HX.out]
    go_wp2
    refine bodyPost_ret (v := .agg #[.int .i64 4, .int .i64 st.pc, .int .u8 d, .int .u8 0]) (by simp [results, Tryz.results90, go_sem, a0, a1, a2, a3, hz, Nat.ne_of_lt hgl, Nat.ne_of_gt hgl]) rfl ⟨rfl, ?r, ?k⟩
    case r =>
      apply XRep.as
      · (repeat (with_reducible first | apply XRep.alloc | apply XRep.drewN | apply XRep.drew | apply XRep.set_a | apply XRep.set_x | apply XRep.set_pc | apply XRep.set_zero | apply XRep.set_carry | apply XRep.set_ph | apply XRep.set_op | apply XRep.set_addr | apply XRep.set_wait | apply XRep.set_down | apply XRep.set_left | apply XRep.set_now | apply XRep.set_s0 | apply XRep.set_s1 | apply XRep.set_bank | apply XRep.set_period | apply XRep.set_next | apply XRep.set_flag | apply XRep.set_fed | apply XRep.set_window | apply XRep.set_taken | apply XRep.set_key | apply XRep.set_early | apply XRep.set_out | apply XRep.set_inp | apply XRep.set_opn | apply XRep.set_place | apply XRep.set_cause | (apply XRep.other; case hb => exact hfr _ (by omega)) | exact hr | exact hr1 | exact hr2 | exact hr3))
      · rfl
      · first | rfl | (rw [HQ.out])
    case k => (repeat (with_reducible first | apply Kept.alloc | apply Kept.drewN | apply Kept.drew | apply Kept.nb | apply Kept.g | apply Kept.bs | apply Kept.ck | apply Kept.bk | apply Kept.tm | apply Kept.wa | apply Kept.po | apply Kept.up | apply Kept.re | apply Kept.me | refine Kept.setCell ?_ (Or.inr (Nat.le_refl _)) _ | refine Kept.setCell ?_ (Or.inr (by omega)) _ | exact k1 | exact k2 | exact k3 | exact Kept.refl _ _))
  · have HX : Hid _ := hx
    have HQ : Hid (∀ (A B : Int), (if indexedB op = true then A else B) = A) := fun A B => by rw [hx]; rfl
    clear hx
    go_enter Tryz.func90, Tryz.ntmps90
    go_wp2_with fail
    refine Calls.mono (HA.out _) ?_
    rintro e w1 ⟨rfl, hr1, k1⟩
    obtain ⟨⟨a0, a1, a2, a3⟩, ⟨g0, g1, g2, g3⟩, hz⟩ := own_zc hr k1
    have c1 := hr1.c_op
    have e1 : ex.op = op := HO.out
    rw [e1] at c1
    clear e1
    have c2 := hr1.c_ph
    have f2 := hr1.f_ph
    have c3 := hr1.c_addr
    have f3 := hr1.f_addr
    have c4 := hr1.c_x
    have hg1 := hr1.g_q
    have k2 : Kept l.own w w1 := ((Kept.refl _ w).alloc _).trans k1
    clear k1
    go_wp2_with fail
    refine (zshape_any op _ o0).mono ?_
    rintro e w2 ⟨rfl, rfl⟩
    go_wp2_with fail
    refine (zindexed_any op _).mono ?_
    rintro e w2 ⟨rfl, rfl⟩
    rw [HX.out]
    go_wp2
    go_region
    all_goals
      go_wp2
      refine bodyPost_ret (v := .agg #[.int .i64 4, .int .i64 st.pc, .int .u8 d, .int .u8 0]) (by simp [results, Tryz.results90, go_sem, a0, a1, a2, a3, hz, Nat.ne_of_lt hgl, Nat.ne_of_gt hgl]) rfl ⟨rfl, ?r, ?k⟩
      case r =>
        apply XRep.as
        · (repeat (with_reducible first | apply XRep.alloc | apply XRep.drewN | apply XRep.drew | apply XRep.set_a | apply XRep.set_x | apply XRep.set_pc | apply XRep.set_zero | apply XRep.set_carry | apply XRep.set_ph | apply XRep.set_op | apply XRep.set_addr | apply XRep.set_wait | apply XRep.set_down | apply XRep.set_left | apply XRep.set_now | apply XRep.set_s0 | apply XRep.set_s1 | apply XRep.set_bank | apply XRep.set_period | apply XRep.set_next | apply XRep.set_flag | apply XRep.set_fed | apply XRep.set_window | apply XRep.set_taken | apply XRep.set_key | apply XRep.set_early | apply XRep.set_out | apply XRep.set_inp | apply XRep.set_opn | apply XRep.set_place | apply XRep.set_cause | (apply XRep.other; case hb => exact hfr _ (by omega)) | exact hr | exact hr1 | exact hr2 | exact hr3))
        · rfl
        · first | rfl | (rw [HQ.out])
      case k => (repeat (with_reducible first | apply Kept.alloc | apply Kept.drewN | apply Kept.drew | apply Kept.nb | apply Kept.g | apply Kept.bs | apply Kept.ck | apply Kept.bk | apply Kept.tm | apply Kept.wa | apply Kept.po | apply Kept.up | apply Kept.re | apply Kept.me | refine Kept.setCell ?_ (Or.inr (Nat.le_refl _)) _ | refine Kept.setCell ?_ (Or.inr (by omega)) _ | exact k1 | exact k2 | exact k3 | exact Kept.refl _ _))

set_option maxRecDepth 100000 in
set_option maxHeartbeats 1000000 in
theorem zoperand_two {n : Nat} {l : XL} {st : St} {ex : Ext} {w : World} (hr : XRep l st ex w) (h : Runs n st ex) (op d : Int) (hop : ex.op = op) (o0 : 0 ≤ op) (hd : st.read st.pc = d) (d0 : 0 ≤ d) (d1 : d ≤ 255) (hs : shapeN op = 2) (ho : op = 1 ∨ (16 ≤ op ∧ op ≤ 20)) :
    Calls Tryz.prog 90 #[.pointer (some ⟨l.g, 0, none⟩), .iface 135 (.slice (some ⟨l.bs, 0, none⟩) 7 7)] w fun e w' => e = .returned (.agg #[.int .i64 4, .int .i64 st.pc, .int .u8 d, .int .u8 0]) ∧ XRep l (({ st with pc := (st.pc + 1) % 256 } : St).jumps op d) { ex with ph := 0 } w' ∧ Kept l.own w w' := by
  have hfr := hr.fresh
  have hgl := hr.g_q
  have HA : Hid _ := fun o => zadv_any (hr.alloc o) h 4
  rw [hd] at HA
  have HS : Hid (shapeN op = 2) := hs
  have HO : Hid (ex.op = op) := hop
  have HQ : Hid _ := ho
  clear hd hs hop ho
  go_enter Tryz.func90, Tryz.ntmps90
  go_wp2_with fail
  refine Calls.mono (HA.out _) ?_
  rintro e w1 ⟨rfl, hr1, k1⟩
  obtain ⟨⟨a0, a1, a2, a3⟩, ⟨g0, g1, g2, g3⟩, hz⟩ := own_zc hr k1
  have c1 := hr1.c_op
  have e1 : ex.op = op := HO.out
  rw [e1] at c1
  clear e1
  have c2 := hr1.c_ph
  have f2 := hr1.f_ph
  have hg1 := hr1.g_q
  have k2 : Kept l.own w w1 := ((Kept.refl _ w).alloc _).trans k1
  clear k1
  have hfr1 := hr1.fresh
  have HSI : Hid (∀ o, Calls Tryz.prog 102 #[.pointer (some ⟨l.g, 0, none⟩), .int .u8 d] ((w1.setCell ⟨l.g, 5, none⟩ (.int .i64 0)).alloc o) fun e w' => e = .returned (.tuple #[]) ∧ XRep l (({ st with pc := (st.pc + 1) % 256 } : St).jumps op d) { ex with ph := 0 } w' ∧ Kept l.own ((w1.setCell ⟨l.g, 5, none⟩ (.int .i64 0)).alloc o) w') := fun o => zdouble_any ((hr1.set_ph 0).alloc o) op HO.out HQ.out d d0 d1
  go_wp2_with fail
  refine (zshape_any op _ o0).mono ?_
  rintro e w2 ⟨rfl, rfl⟩
  rw [HS.out]
  go_wp2_with fail
  refine Calls.mono (HSI.out _) ?_
  rintro e w3 ⟨rfl, hr3, k3⟩
  obtain ⟨hc, hf⟩ := kcell k3 (b := w.heap.size) (by simp; omega) (hfr _ (Nat.le_refl _))
  obtain ⟨hc2, hf2⟩ := kcell k3 (b := w1.heap.size) (by simp) (hfr1 _ (Nat.le_refl _))
  have hz3 : w1.heap.size < w3.heap.size := by have := k3.size; simp at this; omega
  have x0 : w3.cell? ⟨w.heap.size, 0, none⟩ = some (.int .i64 0) := by rw [hc]; simp [go_sem, a0, hz, Nat.ne_of_lt hgl, Nat.ne_of_gt hgl]
  have x1 : w3.cell? ⟨w.heap.size, 1, none⟩ = some (.int .i64 0) := by rw [hc]; simp [go_sem, a1, hz, Nat.ne_of_lt hgl, Nat.ne_of_gt hgl]
  have x2 : w3.cell? ⟨w.heap.size, 2, none⟩ = some (.int .u8 0) := by rw [hc]; simp [go_sem, a2, hz, Nat.ne_of_lt hgl, Nat.ne_of_gt hgl]
  have x3 : w3.cell? ⟨w.heap.size, 3, none⟩ = some (.int .u8 0) := by rw [hc]; simp [go_sem, a3, hz, Nat.ne_of_lt hgl, Nat.ne_of_gt hgl]
  have y0 : w3.frozen? ⟨w.heap.size, 0, none⟩ = false := by rw [hf]; simp [go_sem, g0, hz]
  have y1 : w3.frozen? ⟨w.heap.size, 1, none⟩ = false := by rw [hf]; simp [go_sem, g1, hz]
  have y2 : w3.frozen? ⟨w.heap.size, 2, none⟩ = false := by rw [hf]; simp [go_sem, g2, hz]
  have y3 : w3.frozen? ⟨w.heap.size, 3, none⟩ = false := by rw [hf]; simp [go_sem, g3, hz]
  have u0 : w3.cell? ⟨w1.heap.size, 0, none⟩ = some (.int .i64 4) := by rw [hc2]; simp [go_sem]
  have u1 : w3.cell? ⟨w1.heap.size, 1, none⟩ = some (.int .i64 st.pc) := by rw [hc2]; simp [go_sem]
  have u2 : w3.cell? ⟨w1.heap.size, 2, none⟩ = some (.int .u8 d) := by rw [hc2]; simp [go_sem]
  have u3 : w3.cell? ⟨w1.heap.size, 3, none⟩ = some (.int .u8 0) := by rw [hc2]; simp [go_sem]
  have k4 : Kept l.own w w3 := ((k2.g 5 (.int .i64 0)).alloc _).trans k3
  clear hc hf hc2 hf2 k3 k2
  go_wp2
  refine bodyPost_ret (v := .agg #[.int .i64 4, .int .i64 st.pc, .int .u8 d, .int .u8 0]) (by simp [results, Tryz.results90, go_sem, x0, x1, x2, x3]) rfl ⟨rfl, ?r, ?k⟩
  case r =>
    apply XRep.as
    · (repeat (with_reducible first | apply XRep.alloc | apply XRep.drewN | apply XRep.drew | apply XRep.set_a | apply XRep.set_x | apply XRep.set_pc | apply XRep.set_zero | apply XRep.set_carry | apply XRep.set_ph | apply XRep.set_op | apply XRep.set_addr | apply XRep.set_wait | apply XRep.set_down | apply XRep.set_left | apply XRep.set_now | apply XRep.set_s0 | apply XRep.set_s1 | apply XRep.set_bank | apply XRep.set_period | apply XRep.set_next | apply XRep.set_flag | apply XRep.set_fed | apply XRep.set_window | apply XRep.set_taken | apply XRep.set_key | apply XRep.set_early | apply XRep.set_out | apply XRep.set_inp | apply XRep.set_opn | apply XRep.set_place | apply XRep.set_cause | (apply XRep.other; case hb => exact hfr _ (by omega)) | exact hr | exact hr1 | exact hr2 | exact hr3))
    · rfl
    · rfl
  case k =>
    have k2 := k4
    (repeat (with_reducible first | apply Kept.alloc | apply Kept.drewN | apply Kept.drew | apply Kept.nb | apply Kept.g | apply Kept.bs | apply Kept.ck | apply Kept.bk | apply Kept.tm | apply Kept.wa | apply Kept.po | apply Kept.up | apply Kept.re | apply Kept.me | refine Kept.setCell ?_ (Or.inr (Nat.le_refl _)) _ | refine Kept.setCell ?_ (Or.inr (by omega)) _ | exact k1 | exact k2 | exact k3 | exact Kept.refl _ _))

set_option maxRecDepth 100000 in
set_option maxHeartbeats 1000000 in
theorem zaccess_read {n : Nat} {l : XL} {st : St} {ex : Ext} {w : World} (hr : XRep l st ex w) (h : Runs n st ex) (op a d : Int) (hop : ex.op = op) (ho : 2 ≤ op ∧ op ≤ 9) (h3 : ¬ op = 3) (hs : shapeN op = 3) (ha : ex.addr = a) (r0 : 0 ≤ a) (r1 : a ≤ 255) (hd : st.read a = d) (d0 : 0 ≤ d) (d1 : d ≤ 255) :
    Calls Tryz.prog 91 #[.pointer (some ⟨l.g, 0, none⟩), .iface 135 (.slice (some ⟨l.bs, 0, none⟩) 7 7)] w fun e w' => e = .returned (.agg #[.int .i64 5, .int .i64 a, .int .u8 d, .int .u8 0]) ∧ XRep l (st.takes op d) { ex with ph := 0 } w' ∧ Kept l.own w w' := by
  have hfr := hr.fresh
  have hgl := hr.g_q
  have hmf : ∀ (fn : Fn) (first cap : Array Value) (w : World), (Instr.makeFunc fn first cap).run Tryz.prog w = .ok (.func fn first cap) w := fun _ _ _ _ => rfl
  have hna := bus_nil
  have hme := bus_read
  have hwr : IntKind.i64.wrap a = a := by rw [IntKind.wrap_i64]; omega
  have o0 : 0 ≤ op := by omega
  have c1 := hr.c_op
  rw [hop] at c1
  have c2 := hr.c_ph
  have f2 := hr.f_ph
  have hr2 := (hr.set_ph 0).alloc zc
  obtain ⟨w2, hw2⟩ : ∃ w2, w2 = (w.setCell ⟨l.g, 5, none⟩ (.int .i64 0)).alloc zc := ⟨_, rfl⟩
  rw [← hw2] at hr2
  have k2 : Kept l.own w w2 := by rw [hw2]; exact ((Kept.refl _ w).g _ _).alloc _
  have hh2 : w2.heap[w.heap.size]? = some zc := by
    rw [hw2]
    have e := heap_at (w.setCell ⟨l.g, 5, none⟩ (.int .i64 0)) zc
    have e2 : (w.setCell ⟨l.g, 5, none⟩ (.int .i64 0)).heap.size = w.heap.size := by simp [World.setCell]
    rw [e2] at e
    exact e
  have HW : Hid (w2 = (w.setCell ⟨l.g, 5, none⟩ (.int .i64 0)).alloc (.cells #[.int .i64 0, .int .i64 0, .int .u8 0, .int .u8 0] 54)) := hw2
  have h2 : Runs n st { ex with ph := 0 } := ⟨h.hn, h.hi, ⟨h.hc.n0, h.hc.n1, h.hc.nx, h.hc.p0, h.hc.fd⟩, h.hd, h.hb, h.hin⟩
  have HC : Hid (∀ W, Kept (fun _ => False) w2 W → Calls Tryz.prog 138 #[.slice (some ⟨l.bs, 0, none⟩) 7 7, .int .u8 a] W fun e w' => e = .returned (.int .u8 d) ∧ Kept (fun _ => False) w2 w') := fun W hW => (bRead_any h2.hn (hr2.kept hW (fun _ _ x => x)) h2.hi h2.hc h2.hb h2.hin a r0 r1).mono fun e w' ⟨q1, q2⟩ => ⟨by rw [q1, hd], Kept.trans hW q2⟩
  have HS : Hid (∀ W, Kept (fun _ => False) w2 W → W.cell? ⟨l.g, 7, none⟩ = some (.int .u8 a)) := fun W hW => by rw [(hr2.kept hW (fun _ _ x => x)).c_addr]; show some (Value.int .u8 ex.addr) = _; rw [ha]
  have HR : Hid (∀ W, Kept (fun _ => False) w2 W → Calls Tryz.prog 104 #[.pointer (some ⟨l.g, 0, none⟩), .int .u8 d] W fun e w' => e = .returned (.tuple #[]) ∧ XRep l (st.takes op d) { ex with ph := 0 } w' ∧ Kept l.own W w') := fun W hW => zread_any (hr2.kept hW (fun _ _ x => x)) h.hi op hop ho h3 d d0 d1
  have HZ : Hid (shapeN op = 3) := hs
  have HAD : Hid (ex.addr = a) := ha
  clear hs hop ha hd ho h3 hw2
  go_enter Tryz.func91, Tryz.ntmps91
  go_wp2_with fail
  refine (zshape_any op _ o0).mono ?_
  rintro e wq ⟨rfl, rfl⟩
  rw [HZ.out]
  rw [← HW.out]
  go_wp2
  go_region_held3 (fun W => W.cell? ⟨l.g, 7, none⟩ = some (.int .u8 a)) (first | (apply HS.out; (repeat (with_reducible first | apply Kept.alloc | apply Kept.drewN | apply Kept.drew | apply Kept.nb | apply Kept.g | apply Kept.bs | apply Kept.ck | apply Kept.bk | apply Kept.tm | apply Kept.wa | apply Kept.po | apply Kept.up | apply Kept.re | apply Kept.me | refine Kept.setCell ?_ (Or.inr (Nat.le_refl _)) _ | refine Kept.setCell ?_ (Or.inr (by omega)) _ | exact k1 | exact k2 | exact k3 | exact Kept.refl _ _)); done) | go_keep) (first | (go_at_call 138; refine (HC.out _ (by (repeat (with_reducible first | apply Kept.alloc | apply Kept.drewN | apply Kept.drew | apply Kept.nb | apply Kept.g | apply Kept.bs | apply Kept.ck | apply Kept.bk | apply Kept.tm | apply Kept.wa | apply Kept.po | apply Kept.up | apply Kept.re | apply Kept.me | refine Kept.setCell ?_ (Or.inr (Nat.le_refl _)) _ | refine Kept.setCell ?_ (Or.inr (by omega)) _ | exact k1 | exact k2 | exact k3 | exact Kept.refl _ _)))).mono ?_; rintro e w1 ⟨rfl, k1⟩))
  all_goals
    go_wp2_with fail
    refine (HR.out _ (by (repeat (with_reducible first | apply Kept.alloc | apply Kept.drewN | apply Kept.drew | apply Kept.nb | apply Kept.g | apply Kept.bs | apply Kept.ck | apply Kept.bk | apply Kept.tm | apply Kept.wa | apply Kept.po | apply Kept.up | apply Kept.re | apply Kept.me | refine Kept.setCell ?_ (Or.inr (Nat.le_refl _)) _ | refine Kept.setCell ?_ (Or.inr (by omega)) _ | exact k1 | exact k2 | exact k3 | exact Kept.refl _ _)))).mono ?_
    rintro e w3 ⟨rfl, hr3, k3⟩
    have hz2 : w.heap.size < w2.heap.size := (Array.getElem?_eq_some_iff.1 hh2).1
    have q1 : w1.heap[w.heap.size]? = some zc := (k1.block w.heap.size hz2 (fun x => x)).trans hh2
    have q2 : w3.heap[w.heap.size]? = some zc := (k3.block w.heap.size (Array.getElem?_eq_some_iff.1 q1).1 (hfr _ (Nat.le_refl _))).trans q1
    obtain ⟨⟨x0, x1, x2, x3⟩, ⟨y0, y1, y2, y3⟩, hz3⟩ := zc_kept q2 (Kept.refl _ _)
    have c7 := hr3.c_addr
    have e7 : ex.addr = a := HAD.out
    have c7' : w3.cell? ⟨l.g, 7, none⟩ = some (.int .u8 a) := by rw [c7]; show some (Value.int .u8 ex.addr) = _; rw [e7]
    have k4 : Kept l.own w w3 := (k2.trans (k1.wide (fun _ x => x.elim))).trans k3
    clear c7 e7 q1 q2 k1 k3 hz2
    go_wp2
    refine bodyPost_ret (v := .agg #[.int .i64 5, .int .i64 a, .int .u8 d, .int .u8 0]) (by simp [results, Tryz.results91, go_sem, x0, x1, x2, x3]) rfl ⟨rfl, ?r, ?k⟩
    case r =>
      apply XRep.as
      · (repeat (with_reducible first | apply XRep.alloc | apply XRep.drewN | apply XRep.drew | apply XRep.set_a | apply XRep.set_x | apply XRep.set_pc | apply XRep.set_zero | apply XRep.set_carry | apply XRep.set_ph | apply XRep.set_op | apply XRep.set_addr | apply XRep.set_wait | apply XRep.set_down | apply XRep.set_left | apply XRep.set_now | apply XRep.set_s0 | apply XRep.set_s1 | apply XRep.set_bank | apply XRep.set_period | apply XRep.set_next | apply XRep.set_flag | apply XRep.set_fed | apply XRep.set_window | apply XRep.set_taken | apply XRep.set_key | apply XRep.set_early | apply XRep.set_out | apply XRep.set_inp | apply XRep.set_opn | apply XRep.set_place | apply XRep.set_cause | (apply XRep.other; case hb => exact hfr _ (by omega)) | exact hr | exact hr1 | exact hr2 | exact hr3))
      · rfl
      · rfl
    case k =>
      have k2 := k4
      (repeat (with_reducible first | apply Kept.alloc | apply Kept.drewN | apply Kept.drew | apply Kept.nb | apply Kept.g | apply Kept.bs | apply Kept.ck | apply Kept.bk | apply Kept.tm | apply Kept.wa | apply Kept.po | apply Kept.up | apply Kept.re | apply Kept.me | refine Kept.setCell ?_ (Or.inr (Nat.le_refl _)) _ | refine Kept.setCell ?_ (Or.inr (by omega)) _ | exact k1 | exact k2 | exact k3 | exact Kept.refl _ _))

end Go.Proofs.YtikdbpphbdbdnaaGreat

/- The program's processor: a byte is written; its cycle, whole. -/
namespace Go.Proofs.YtikdbpphbdbdnaaGreat
open Go.RowKit
set_option linter.unusedVariables false

theorem winS_a (st : St) (v : Int) : (winS st v).a = st.a := by unfold winS; split <;> rfl
theorem updates_a (st : St) (a v : Int) : (st.updates a v).a = st.a := by
  unfold St.updates St.setBank St.setStrikes
  repeat' split
  all_goals rfl
theorem wrS_a (st : St) (a v : Int) : (wrS st a v).a = st.a := by
  unfold wrS
  split
  · rfl
  split
  · rfl
  split
  · rfl
  split
  · rfl
  split
  · exact winS_a st v
  split
  · rfl
  split
  · exact updates_a st a v
  · rfl
theorem wrX_addr (st : St) (ex : Ext) (a v : Int) : (wrX st ex a v).addr = ex.addr := by
  unfold wrX startX keyX feedX
  repeat' split
  all_goals rfl

theorem Grew.g {l l' : XL} {w : World} (h : Grew l l' w) : l'.g = l.g := by obtain ⟨q, cap, rfl, _⟩ := h; rfl

set_option maxRecDepth 100000 in
set_option maxHeartbeats 1000000 in
theorem zaccess_write {n : Nat} {l : XL} {st : St} {ex : Ext} {w : World} (hr : XRep l st ex w) (h : Runs n st ex) (op a : Int) (hop : ex.op = op) (o0 : 0 ≤ op) (hs : shapeN op = 4) (ha : ex.addr = a) (r0 : 0 ≤ a) (r1 : a ≤ 255) :
    Calls Tryz.prog 91 #[.pointer (some ⟨l.g, 0, none⟩), .iface 135 (.slice (some ⟨l.bs, 0, none⟩) 7 7)] w fun e w' => e = .returned (.agg #[.int .i64 6, .int .i64 a, .int .u8 st.a, .int .u8 0]) ∧ Went l (wrS st a st.a) (wrX st { ex with ph := 0 } a st.a) w w' := by
  have hfr := hr.fresh
  have hgl := hr.g_q
  have hmf : ∀ (fn : Fn) (first cap : Array Value) (w : World), (Instr.makeFunc fn first cap).run Tryz.prog w = .ok (.func fn first cap) w := fun _ _ _ _ => rfl
  have hna := bus_nilW
  have hme := bus_write
  have hwr : IntKind.i64.wrap a = a := by rw [IntKind.wrap_i64]; omega
  obtain ⟨v0, v1⟩ := h.hi.a
  have c1 := hr.c_op
  rw [hop] at c1
  have c2 := hr.c_ph
  have f2 := hr.f_ph
  have hr2 := (hr.set_ph 0).alloc zc
  obtain ⟨w2, hw2⟩ : ∃ w2, w2 = (w.setCell ⟨l.g, 5, none⟩ (.int .i64 0)).alloc zc := ⟨_, rfl⟩
  rw [← hw2] at hr2
  have k2 : Kept l.own w w2 := by rw [hw2]; exact ((Kept.refl _ w).g _ _).alloc _
  have hh2 : w2.heap[w.heap.size]? = some zc := by
    rw [hw2]
    have e := heap_at (w.setCell ⟨l.g, 5, none⟩ (.int .i64 0)) zc
    have e2 : (w.setCell ⟨l.g, 5, none⟩ (.int .i64 0)).heap.size = w.heap.size := by simp [World.setCell]
    rw [e2] at e
    exact e
  have HW : Hid (w2 = (w.setCell ⟨l.g, 5, none⟩ (.int .i64 0)).alloc (.cells #[.int .i64 0, .int .i64 0, .int .u8 0, .int .u8 0] 54)) := hw2
  have h2 : Runs n st { ex with ph := 0 } := ⟨h.hn, h.hi, ⟨h.hc.n0, h.hc.n1, h.hc.nx, h.hc.p0, h.hc.fd⟩, h.hd, h.hb, h.hin⟩
  have HC : Hid (∀ W, Kept (fun _ => False) w2 W → Calls Tryz.prog 139 #[.slice (some ⟨l.bs, 0, none⟩) 7 7, .int .u8 a, .int .u8 st.a] W fun e w' => e = .returned (.tuple #[]) ∧ (∃ l', Grew l l' w ∧ XRep l' (wrS st a st.a) (wrX st { ex with ph := 0 } a st.a) w' ∧ Kept l.own w w' ∧ ¬ l'.own w.heap.size) ∧ (w'.cell? ⟨l.g, 7, none⟩ = some (.int .u8 a) ∧ w'.cell? ⟨l.g, 0, none⟩ = some (.int .u8 st.a)) ∧ w'.heap[w.heap.size]? = some zc ∧ l.g < w'.heap.size) := fun W hW => (bWrite_any h2.hn (hr2.kept hW (fun _ _ x => x)) h2.hi h2.hc h2.hd h2.hb a st.a r0 r1 v0 v1).mono fun e w' ⟨q1, l', g, r, k⟩ => by
    have a1 := r.c_addr
    have a2 := r.c_a
    have a3 := r.g_q
    rw [g.g] at a1 a2 a3
    rw [wrX_addr] at a1
    rw [wrS_a] at a2
    have hz2 : w.heap.size < w2.heap.size := (Array.getElem?_eq_some_iff.1 hh2).1
    have b1 : W.heap[w.heap.size]? = some zc := (hW.block w.heap.size hz2 (fun x => x)).trans hh2
    have b2 : w'.heap[w.heap.size]? = some zc := (k.block w.heap.size (Array.getElem?_eq_some_iff.1 b1).1 (hfr _ (Nat.le_refl _))).trans b1
    have hno : ¬ l'.own w.heap.size := fun x => by
      rcases g.own x with y | y
      · exact hfr _ (Nat.le_refl _) y
      · have := (Array.getElem?_eq_some_iff.1 b1).1; omega
    have kW : Kept l.own w W := k2.trans (hW.wide (fun _ x => x.elim))
    refine ⟨q1, ⟨l', g.later kW.size, r, kW.trans k, hno⟩, ⟨?_, a2⟩, b2, a3⟩
    rw [a1]
    show some (Value.int .u8 ex.addr) = _
    rw [ha]
  have HS : Hid (∀ W, Kept (fun _ => False) w2 W → W.cell? ⟨l.g, 7, none⟩ = some (.int .u8 a) ∧ W.cell? ⟨l.g, 0, none⟩ = some (.int .u8 st.a)) := fun W hW => ⟨by rw [(hr2.kept hW (fun _ _ x => x)).c_addr]; show some (Value.int .u8 ex.addr) = _; rw [ha], (hr2.kept hW (fun _ _ x => x)).c_a⟩
  have HZ : Hid (shapeN op = 4) := hs
  clear hs hop ha hw2
  go_enter Tryz.func91, Tryz.ntmps91
  go_wp2_with fail
  refine (zshape_any op _ o0).mono ?_
  rintro e wq ⟨rfl, rfl⟩
  rw [HZ.out]
  rw [← HW.out]
  go_wp2
  go_region_held3 (fun W => W.cell? ⟨l.g, 7, none⟩ = some (.int .u8 a) ∧ W.cell? ⟨l.g, 0, none⟩ = some (.int .u8 st.a)) (first | assumption | (apply HS.out; (repeat (with_reducible first | apply Kept.alloc | apply Kept.drewN | apply Kept.drew | apply Kept.nb | apply Kept.g | apply Kept.bs | apply Kept.ck | apply Kept.bk | apply Kept.tm | apply Kept.wa | apply Kept.po | apply Kept.up | apply Kept.re | apply Kept.me | refine Kept.setCell ?_ (Or.inr (Nat.le_refl _)) _ | refine Kept.setCell ?_ (Or.inr (by omega)) _ | exact k1 | exact k2 | exact k3 | exact Kept.refl _ _)); done) | go_keep) (first | (go_at_call 139; refine (HC.out _ (by (repeat (with_reducible first | apply Kept.alloc | apply Kept.drewN | apply Kept.drew | apply Kept.nb | apply Kept.g | apply Kept.bs | apply Kept.ck | apply Kept.bk | apply Kept.tm | apply Kept.wa | apply Kept.po | apply Kept.up | apply Kept.re | apply Kept.me | refine Kept.setCell ?_ (Or.inr (Nat.le_refl _)) _ | refine Kept.setCell ?_ (Or.inr (by omega)) _ | exact k1 | exact k2 | exact k3 | exact Kept.refl _ _)))).mono ?_; rintro e w1 ⟨rfl, went, hkeep, hzc, hg1⟩))
  all_goals
    obtain ⟨⟨x0, x1, x2, x3⟩, ⟨y0, y1, y2, y3⟩, hz3⟩ := zc_kept hzc (Kept.refl _ _)
    obtain ⟨d7, d0⟩ := hkeep
    go_wp2
    go_region
  all_goals
    go_wp2
    refine bodyPost_ret (v := .agg #[.int .i64 6, .int .i64 a, .int .u8 st.a, .int .u8 0]) (by simp [results, Tryz.results91, go_sem, x0, x1, x2, x3]) rfl ⟨rfl, ?_⟩
    obtain ⟨l', gl, rl, kl, hno⟩ := went
    refine ⟨l', gl, ?_, ?_⟩
    · repeat (with_reducible first | apply XRep.drew | apply XRep.drewN | apply XRep.alloc | refine XRep.other ?_ hno _ | exact rl)
    · have k3 := kl
      (repeat (with_reducible first | apply Kept.alloc | apply Kept.drewN | apply Kept.drew | apply Kept.nb | apply Kept.g | apply Kept.bs | apply Kept.ck | apply Kept.bk | apply Kept.tm | apply Kept.wa | apply Kept.po | apply Kept.up | apply Kept.re | apply Kept.me | refine Kept.setCell ?_ (Or.inr (Nat.le_refl _)) _ | refine Kept.setCell ?_ (Or.inr (by omega)) _ | exact k1 | exact k2 | exact k3 | exact Kept.refl _ _))

end Go.Proofs.YtikdbpphbdbdnaaGreat
