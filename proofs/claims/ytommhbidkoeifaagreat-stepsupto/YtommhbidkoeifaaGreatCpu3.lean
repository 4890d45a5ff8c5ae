/- The program's processor: a byte is read at PC. -/
import Derived.Test.YtommhbidkoeifaaGreatBus2
import Derived.Test.YtommhbidkoeifaaGreatCpu2
namespace Go.Proofs.YtommhbidkoeifaaGreat
open Go.RowKit
set_option linter.unusedVariables false
set_option linter.unusedSimpArgs false

theorem bus_nil (a : Addr) (n c : Nat) (s : World) : (nilAhead 310 133 (.slice (some a) n c) "Read").run Tryz.prog s = .ok (some false) s := by kernel_rfl
theorem bus_nilW (a : Addr) (n c : Nat) (s : World) : (nilAhead 310 133 (.slice (some a) n c) "Write").run Tryz.prog s = .ok (some false) s := by kernel_rfl
theorem bus_read (a : Addr) (n c : Nat) (s : World) : (method 310 133 (.slice (some a) n c) "Read").run Tryz.prog s = .ok (132, .slice (some a) n c) s := by kernel_rfl
theorem bus_write (a : Addr) (n c : Nat) (s : World) : (method 310 133 (.slice (some a) n c) "Write").run Tryz.prog s = .ok (133, .slice (some a) n c) s := by kernel_rfl

/-- What the processor's cycle asks of the board. -/
structure Runs (n : Nat) (st : St) (ex : Ext) : Prop where
  hn : n < 4611686018427387904
  hi : Inv st
  hc : Clk n st ex
  hd : DsOk ex.due
  hb : st.bank = 0 ∨ st.bank = 1
  hin : ex.inp = st.inp

/-- A cycle of which nothing is set. -/
def zc : Obj := .cells #[.int .i64 0, .int .i64 0, .int .u8 0, .int .u8 0] 54

/-- The cells of a new cycle's variable, kept. -/
theorem zc_kept {W w1 : World} {b : Nat} (hh : W.heap[b]? = some zc) (k : Kept (fun _ => False) W w1) :
    (w1.cell? ⟨b, 0, none⟩ = some (.int .i64 0) ∧ w1.cell? ⟨b, 1, none⟩ = some (.int .i64 0) ∧ w1.cell? ⟨b, 2, none⟩ = some (.int .u8 0) ∧ w1.cell? ⟨b, 3, none⟩ = some (.int .u8 0)) ∧ (w1.frozen? ⟨b, 0, none⟩ = false ∧ w1.frozen? ⟨b, 1, none⟩ = false ∧ w1.frozen? ⟨b, 2, none⟩ = false ∧ w1.frozen? ⟨b, 3, none⟩ = false) ∧ b < w1.heap.size := by
  have hb := (Array.getElem?_eq_some_iff.1 hh).1
  have h1 : w1.heap[b]? = some zc := (k.block b hb (fun x => x)).trans hh
  unfold zc at h1
  refine ⟨⟨?_, ?_, ?_, ?_⟩, ⟨?_, ?_, ?_, ?_⟩, (Array.getElem?_eq_some_iff.1 h1).1⟩
  all_goals first | simp [World.cell?, h1] | simp [World.frozen?, h1]

theorem heap_at (w : World) (o : Obj) : (w.alloc o).heap[w.heap.size]? = some o := by
  unfold World.alloc
  simp only [Array.getElem?_push_size]

theorem zc_new (w : World) : (w.alloc zc).heap[w.heap.size]? = some zc := heap_at w zc

theorem zc_new1 (w : World) (o : Obj) : ((w.alloc zc).alloc o).heap[w.heap.size]? = some zc := by
  rw [Below.heap_alloc _ _ _ (by rw [World.size_alloc]; omega)]
  exact zc_new w

theorem zc_new2 (w : World) (o : Obj) : ((w.alloc o).alloc zc).heap[w.heap.size + 1]? = some zc := by
  have h := zc_new (w.alloc o)
  rw [World.size_alloc] at h
  exact h

set_option maxRecDepth 100000 in
set_option maxHeartbeats 1000000 in
theorem zadv_any {n : Nat} {l : XL} {st : St} {ex : Ext} {w : World} (hr : XRep l st ex w) (h : Runs n st ex) (k : Int) :
    Calls Tryz.prog 95 #[.pointer (some ⟨l.g, 0, none⟩), .iface 133 (.slice (some ⟨l.bs, 0, none⟩) 7 7), .int .i64 k] w fun e w' => e = .returned (.agg #[.int .i64 k, .int .i64 st.pc, .int .u8 (st.read st.pc), .int .u8 0]) ∧ XRep l { st with pc := (st.pc + 1) % 256 } ex w' ∧ Kept l.own w w' := by
  obtain ⟨p0, p1⟩ := h.hi.pc
  have hfr := hr.fresh
  have hmf : ∀ (fn : Fn) (first cap : Array Value) (w : World), (Instr.makeFunc fn first cap).run Tryz.prog w = .ok (.func fn first cap) w := fun _ _ _ _ => rfl
  have hna := bus_nil
  have hme := bus_read
  have hwr : IntKind.i64.wrap st.pc = st.pc := by rw [IntKind.wrap_i64]; omega
  have HC : ∀ W, Kept (fun _ => False) w W → Calls Tryz.prog 132 #[.slice (some ⟨l.bs, 0, none⟩) 7 7, .int .u8 st.pc] W fun e w' => e = .returned (.int .u8 (st.read st.pc)) ∧ Kept (fun _ => False) w w' ∧ Kept (fun _ => False) W w' ∧ XRep l st ex w' := fun W hW => (bRead_any h.hn (hr.kept hW (fun _ _ x => x)) h.hi h.hc h.hb h.hin st.pc p0 p1).mono fun e w' ⟨h1, h2⟩ => ⟨h1, Kept.trans hW h2, h2, (hr.kept hW (fun _ _ x => x)).kept h2 (fun _ _ x => x)⟩
  have HS : Hid (∀ W, Kept (fun _ => False) w W → W.cell? ⟨l.g, 2, none⟩ = some (.int .u8 st.pc)) := fun W hW => (hr.kept hW (fun _ _ x => x)).c_pc
  have H1 : Hid (Calls Tryz.prog 132 #[.slice (some ⟨l.bs, 0, none⟩) 7 7, .int .u8 st.pc] (w.alloc (.cells #[.int .i64 0, .int .i64 0, .int .u8 0, .int .u8 0] 54)).drew fun e w' => e = .returned (.int .u8 (st.read st.pc)) ∧ Kept (fun _ => False) w w' ∧ XRep l st ex w' ∧ _) := (HC _ (((Kept.refl _ w).alloc zc).drew)).mono fun e w' ⟨h1, h2, h3, h4⟩ => ⟨h1, h2, h4, zc_kept (W := (w.alloc zc).drew) (b := w.heap.size) (zc_new w) h3⟩
  have H2 : Hid (Calls Tryz.prog 132 #[.slice (some ⟨l.bs, 0, none⟩) 7 7, .int .u8 st.pc] ((w.alloc (.cells #[.int .i64 0, .int .i64 0, .int .u8 0, .int .u8 0] 54)).alloc (.cells #[.int .i64 0, .int .i64 0, .int .u8 0, .int .u8 0] 54)).drew fun e w' => e = .returned (.int .u8 (st.read st.pc)) ∧ Kept (fun _ => False) w w' ∧ XRep l st ex w' ∧ _ ∧ _) := (HC _ ((((Kept.refl _ w).alloc zc).alloc zc).drew)).mono fun e w' ⟨h1, h2, h3, h4⟩ => ⟨h1, h2, h4, zc_kept (W := ((w.alloc zc).alloc zc).drew) (b := w.heap.size) (zc_new1 w _) h3, zc_kept (W := ((w.alloc zc).alloc zc).drew) (b := w.heap.size + 1) (zc_new2 w _) h3⟩
  clear HC
  have hgl := hr.g_q
  go_enter Tryz.func95, Tryz.ntmps95
  go_wp2
  go_region_held3 (fun W => W.cell? ⟨l.g, 2, none⟩ = some (.int .u8 st.pc)) (first | (apply HS.out; (repeat (with_reducible first | apply Kept.alloc | apply Kept.drewN | apply Kept.drew | apply Kept.nb | apply Kept.g | apply Kept.bs | apply Kept.ck | apply Kept.bk | apply Kept.tm | apply Kept.wa | apply Kept.po | apply Kept.up | apply Kept.re | apply Kept.me | refine Kept.setCell ?_ (Or.inr (Nat.le_refl _)) _ | refine Kept.setCell ?_ (Or.inr (by omega)) _ | exact k1 | exact k2 | exact k3 | exact Kept.refl _ _)); done) | go_keep) (first | (go_at_call 132; refine Calls.mono H1.out ?_; rintro e w1 ⟨rfl, k1, hr1, ⟨a0, a1, a2, a3⟩, ⟨b0, b1, b2, b3⟩, hz⟩) | (go_at_call 132; refine Calls.mono H2.out ?_; rintro e w1 ⟨rfl, k1, hr1, ⟨⟨a0, a1, a2, a3⟩, ⟨b0, b1, b2, b3⟩, hz⟩, ⟨a4, a5, a6, a7⟩, ⟨b4, b5, b6, b7⟩, hz2⟩))
  all_goals
    have d2 := hr1.c_pc
    have e2 := hr1.f_pc
    have hg1 := hr1.g_q
    go_wp2
    refine bodyPost_ret (v := .agg #[.int .i64 k, .int .i64 st.pc, .int .u8 (st.read st.pc), .int .u8 0]) (by simp [results, Tryz.results95, go_sem, a0, a1, a2, a3, hz, Nat.ne_of_lt hgl, Nat.ne_of_gt hgl]) rfl ⟨rfl, ?r, ?k⟩
    case r =>
      apply XRep.as
      · (repeat (with_reducible first | apply XRep.alloc | apply XRep.drewN | apply XRep.drew | apply XRep.set_a | apply XRep.set_x | apply XRep.set_pc | apply XRep.set_zero | apply XRep.set_carry | apply XRep.set_ph | apply XRep.set_op | apply XRep.set_addr | apply XRep.set_wait | apply XRep.set_down | apply XRep.set_left | apply XRep.set_now | apply XRep.set_s0 | apply XRep.set_s1 | apply XRep.set_bank | apply XRep.set_period | apply XRep.set_next | apply XRep.set_flag | apply XRep.set_fed | apply XRep.set_window | apply XRep.set_taken | apply XRep.set_key | apply XRep.set_early | apply XRep.set_out | apply XRep.set_inp | apply XRep.set_opn | apply XRep.set_place | apply XRep.set_cause | (apply XRep.other; case hb => exact hfr _ (by omega)) | exact hr | exact hr1 | exact hr2 | exact hr3))
      · rfl
      · rfl
    case k =>
      have k2 : Kept l.own w w1 := k1.wide (fun _ x => x.elim)
      clear k1
      (repeat (with_reducible first | apply Kept.alloc | apply Kept.drewN | apply Kept.drew | apply Kept.nb | apply Kept.g | apply Kept.bs | apply Kept.ck | apply Kept.bk | apply Kept.tm | apply Kept.wa | apply Kept.po | apply Kept.up | apply Kept.re | apply Kept.me | refine Kept.setCell ?_ (Or.inr (Nat.le_refl _)) _ | refine Kept.setCell ?_ (Or.inr (by omega)) _ | exact k1 | exact k2 | exact k3 | exact Kept.refl _ _))

end Go.Proofs.YtommhbidkoeifaaGreat
