/- The program's processor: a byte is written; its cycle, whole. -/
import Derived.Test.YtommhbidkoeifaaGreatCpu5
namespace Go.Proofs.YtommhbidkoeifaaGreat
open Go.RowKit
set_option linter.unusedVariables false

theorem winS_a (st : St) (v : Int) : (winS st v).a = st.a := by unfold winS; split <;> rfl
theorem updates_a (st : St) (a v : Int) : (st.updates a v).a = st.a := by
  unfold St.updates St.setBank St.setStrikes
  repeat' split
  all_goals rfl
theorem wrS_a (st : St) (a v : Int) : (wrS st a v).a = st.a := by
  unfold wrS
  split
  · rfl
  split
  · rfl
  split
  · rfl
  split
  · rfl
  split
  · exact winS_a st v
  split
  · rfl
  split
  · exact updates_a st a v
  · rfl
theorem wrX_addr (st : St) (ex : Ext) (a v : Int) : (wrX st ex a v).addr = ex.addr := by
  unfold wrX startX keyX feedX
  repeat' split
  all_goals rfl

theorem Grew.g {l l' : XL} {w : World} (h : Grew l l' w) : l'.g = l.g := by obtain ⟨q, cap, rfl, _⟩ := h; rfl

set_option maxRecDepth 100000 in
set_option maxHeartbeats 1000000 in
theorem zaccess_write {n : Nat} {l : XL} {st : St} {ex : Ext} {w : World} (hr : XRep l st ex w) (h : Runs n st ex) (op a : Int) (hop : ex.op = op) (o0 : 0 ≤ op) (hs : shapeN op = 4) (ha : ex.addr = a) (r0 : 0 ≤ a) (r1 : a ≤ 255) :
    Calls Tryz.prog 86 #[.pointer (some ⟨l.g, 0, none⟩), .iface 133 (.slice (some ⟨l.bs, 0, none⟩) 7 7)] w fun e w' => e = .returned (.agg #[.int .i64 6, .int .i64 a, .int .u8 st.a, .int .u8 0]) ∧ Went l (wrS st a st.a) (wrX st { ex with ph := 0 } a st.a) w w' := by
  have hfr := hr.fresh
  have hgl := hr.g_q
  have hmf : ∀ (fn : Fn) (first cap : Array Value) (w : World), (Instr.makeFunc fn first cap).run Tryz.prog w = .ok (.func fn first cap) w := fun _ _ _ _ => rfl
  have hna := bus_nilW
  have hme := bus_write
  have hwr : IntKind.i64.wrap a = a := by rw [IntKind.wrap_i64]; omega
  obtain ⟨v0, v1⟩ := h.hi.a
  have c1 := hr.c_op
  rw [hop] at c1
  have c2 := hr.c_ph
  have f2 := hr.f_ph
  have hr2 := (hr.set_ph 0).alloc zc
  obtain ⟨w2, hw2⟩ : ∃ w2, w2 = (w.setCell ⟨l.g, 5, none⟩ (.int .i64 0)).alloc zc := ⟨_, rfl⟩
  rw [← hw2] at hr2
  have k2 : Kept l.own w w2 := by rw [hw2]; exact ((Kept.refl _ w).g _ _).alloc _
  have hh2 : w2.heap[w.heap.size]? = some zc := by
    rw [hw2]
    have e := heap_at (w.setCell ⟨l.g, 5, none⟩ (.int .i64 0)) zc
    have e2 : (w.setCell ⟨l.g, 5, none⟩ (.int .i64 0)).heap.size = w.heap.size := by simp [World.setCell]
    rw [e2] at e
    exact e
  have HW : Hid (w2 = (w.setCell ⟨l.g, 5, none⟩ (.int .i64 0)).alloc (.cells #[.int .i64 0, .int .i64 0, .int .u8 0, .int .u8 0] 54)) := hw2
  have h2 : Runs n st { ex with ph := 0 } := ⟨h.hn, h.hi, ⟨h.hc.n0, h.hc.n1, h.hc.nx, h.hc.p0, h.hc.fd⟩, h.hd, h.hb, h.hin⟩
  have HC : Hid (∀ W, Kept (fun _ => False) w2 W → Calls Tryz.prog 133 #[.slice (some ⟨l.bs, 0, none⟩) 7 7, .int .u8 a, .int .u8 st.a] W fun e w' => e = .returned (.tuple #[]) ∧ (∃ l', Grew l l' w ∧ XRep l' (wrS st a st.a) (wrX st { ex with ph := 0 } a st.a) w' ∧ Kept l.own w w' ∧ ¬ l'.own w.heap.size) ∧ (w'.cell? ⟨l.g, 7, none⟩ = some (.int .u8 a) ∧ w'.cell? ⟨l.g, 0, none⟩ = some (.int .u8 st.a)) ∧ w'.heap[w.heap.size]? = some zc ∧ l.g < w'.heap.size) := fun W hW => (bWrite_any h2.hn (hr2.kept hW (fun _ _ x => x)) h2.hi h2.hc h2.hd h2.hb a st.a r0 r1 v0 v1).mono fun e w' ⟨q1, l', g, r, k⟩ => by
    have a1 := r.c_addr
    have a2 := r.c_a
    have a3 := r.g_q
    rw [g.g] at a1 a2 a3
    rw [wrX_addr] at a1
    rw [wrS_a] at a2
    have hz2 : w.heap.size < w2.heap.size := (Array.getElem?_eq_some_iff.1 hh2).1
    have b1 : W.heap[w.heap.size]? = some zc := (hW.block w.heap.size hz2 (fun x => x)).trans hh2
    have b2 : w'.heap[w.heap.size]? = some zc := (k.block w.heap.size (Array.getElem?_eq_some_iff.1 b1).1 (hfr _ (Nat.le_refl _))).trans b1
    have hno : ¬ l'.own w.heap.size := fun x => by
      rcases g.own x with y | y
      · exact hfr _ (Nat.le_refl _) y
      · have := (Array.getElem?_eq_some_iff.1 b1).1; omega
    have kW : Kept l.own w W := k2.trans (hW.wide (fun _ x => x.elim))
    refine ⟨q1, ⟨l', g.later kW.size, r, kW.trans k, hno⟩, ⟨?_, a2⟩, b2, a3⟩
    rw [a1]
    show some (Value.int .u8 ex.addr) = _
    rw [ha]
  have HS : Hid (∀ W, Kept (fun _ => False) w2 W → W.cell? ⟨l.g, 7, none⟩ = some (.int .u8 a) ∧ W.cell? ⟨l.g, 0, none⟩ = some (.int .u8 st.a)) := fun W hW => ⟨by rw [(hr2.kept hW (fun _ _ x => x)).c_addr]; show some (Value.int .u8 ex.addr) = _; rw [ha], (hr2.kept hW (fun _ _ x => x)).c_a⟩
  have HZ : Hid (shapeN op = 4) := hs
  clear hs hop ha hw2
  go_enter Tryz.func86, Tryz.ntmps86
  go_wp2_with fail
  refine (zshape_any op _ o0).mono ?_
  rintro e wq ⟨rfl, rfl⟩
  rw [HZ.out]
  rw [← HW.out]
  go_wp2
  go_region_held3 (fun W => W.cell? ⟨l.g, 7, none⟩ = some (.int .u8 a) ∧ W.cell? ⟨l.g, 0, none⟩ = some (.int .u8 st.a)) (first | assumption | (apply HS.out; (repeat (with_reducible first | apply Kept.alloc | apply Kept.drewN | apply Kept.drew | apply Kept.nb | apply Kept.g | apply Kept.bs | apply Kept.ck | apply Kept.bk | apply Kept.tm | apply Kept.wa | apply Kept.po | apply Kept.up | apply Kept.re | apply Kept.me | refine Kept.setCell ?_ (Or.inr (Nat.le_refl _)) _ | refine Kept.setCell ?_ (Or.inr (by omega)) _ | exact k1 | exact k2 | exact k3 | exact Kept.refl _ _)); done) | go_keep) (first | (go_at_call 133; refine (HC.out _ (by (repeat (with_reducible first | apply Kept.alloc | apply Kept.drewN | apply Kept.drew | apply Kept.nb | apply Kept.g | apply Kept.bs | apply Kept.ck | apply Kept.bk | apply Kept.tm | apply Kept.wa | apply Kept.po | apply Kept.up | apply Kept.re | apply Kept.me | refine Kept.setCell ?_ (Or.inr (Nat.le_refl _)) _ | refine Kept.setCell ?_ (Or.inr (by omega)) _ | exact k1 | exact k2 | exact k3 | exact Kept.refl _ _)))).mono ?_; rintro e w1 ⟨rfl, went, hkeep, hzc, hg1⟩))
  all_goals
    obtain ⟨⟨x0, x1, x2, x3⟩, ⟨y0, y1, y2, y3⟩, hz3⟩ := zc_kept hzc (Kept.refl _ _)
    obtain ⟨d7, d0⟩ := hkeep
    go_wp2
    go_region
  all_goals
    go_wp2
    refine bodyPost_ret (v := .agg #[.int .i64 6, .int .i64 a, .int .u8 st.a, .int .u8 0]) (by simp [results, Tryz.results86, go_sem, x0, x1, x2, x3]) rfl ⟨rfl, ?_⟩
    obtain ⟨l', gl, rl, kl, hno⟩ := went
    refine ⟨l', gl, ?_, ?_⟩
    · repeat (with_reducible first | apply XRep.drew | apply XRep.drewN | apply XRep.alloc | refine XRep.other ?_ hno _ | exact rl)
    · have k3 := kl
      (repeat (with_reducible first | apply Kept.alloc | apply Kept.drewN | apply Kept.drew | apply Kept.nb | apply Kept.g | apply Kept.bs | apply Kept.ck | apply Kept.bk | apply Kept.tm | apply Kept.wa | apply Kept.po | apply Kept.up | apply Kept.re | apply Kept.me | refine Kept.setCell ?_ (Or.inr (Nat.le_refl _)) _ | refine Kept.setCell ?_ (Or.inr (by omega)) _ | exact k1 | exact k2 | exact k3 | exact Kept.refl _ _))

end Go.Proofs.YtommhbidkoeifaaGreat
