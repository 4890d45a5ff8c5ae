/- The program's processor: the first byte of an instruction. -/
import Derived.Test.YtommhbidkoeifaaGreatCpu3
namespace Go.Proofs.YtommhbidkoeifaaGreat
open Go.RowKit
set_option linter.unusedVariables false
set_option linter.unusedSimpArgs false

/-- The cycle that is seen. -/
def cyV (k a d : Int) : Value := .agg #[.int .i64 k, .int .i64 a, .int .u8 d, .int .u8 0]

set_option maxRecDepth 100000 in
set_option maxHeartbeats 1000000 in
theorem zfetch_trap {n : Nat} {l : XL} {st : St} {ex : Ext} {w : World} (hr : XRep l st ex w) (h : Runs n st ex) (d : Int) (hd : st.read st.pc = d) (d0 : 0 ≤ d) (d1 : d ≤ 255) (hs : shapeN d = 0) :
    Calls Tryz.prog 87 #[.pointer (some ⟨l.g, 0, none⟩), .iface 133 (.slice (some ⟨l.bs, 0, none⟩) 7 7)] w fun e w' => e = .panicked [{ v := .iface 150 (.agg #[.int .i64 3, .int .i64 st.pc, .int .u8 d, .int .u8 0]), recovered := false }] ∧ XRep l { st with pc := (st.pc + 1) % 256 } { ex with op := d } w' ∧ Kept l.own w w' := by
  have hfr := hr.fresh
  have hgl := hr.g_q
  have HA : Hid _ := fun o => zadv_any (hr.alloc o) h 3
  rw [hd] at HA
  have HS : Hid (shapeN d = 0) := hs
  clear hd hs
  go_enter Tryz.func87, Tryz.ntmps87
  go_wp2_with fail
  refine Calls.mono (HA.out _) ?_
  rintro e w1 ⟨rfl, hr1, k1⟩
  have c1 := hr1.c_op
  have f1 := hr1.f_op
  have hg1 := hr1.g_q
  go_wp2_with fail
  refine (zshape_any d _ d0).mono ?_
  rintro e w2 ⟨rfl, rfl⟩
  rw [HS.out]
  have k2 : Kept l.own w w1 := ((Kept.refl _ w).alloc _).trans k1
  clear k1
  go_wp2
  refine ⟨rfl, rfl, ?r, ?k⟩
  case r =>
    apply XRep.as
    · (repeat (with_reducible first | apply XRep.alloc | apply XRep.drewN | apply XRep.drew | apply XRep.set_a | apply XRep.set_x | apply XRep.set_pc | apply XRep.set_zero | apply XRep.set_carry | apply XRep.set_ph | apply XRep.set_op | apply XRep.set_addr | apply XRep.set_wait | apply XRep.set_down | apply XRep.set_left | apply XRep.set_now | apply XRep.set_s0 | apply XRep.set_s1 | apply XRep.set_bank | apply XRep.set_period | apply XRep.set_next | apply XRep.set_flag | apply XRep.set_fed | apply XRep.set_window | apply XRep.set_taken | apply XRep.set_key | apply XRep.set_early | apply XRep.set_out | apply XRep.set_inp | apply XRep.set_opn | apply XRep.set_place | apply XRep.set_cause | (apply XRep.other; case hb => exact hfr _ (by omega)) | exact hr | exact hr1 | exact hr2 | exact hr3))
    · rfl
    · rfl
  case k => (repeat (with_reducible first | apply Kept.alloc | apply Kept.drewN | apply Kept.drew | apply Kept.nb | apply Kept.g | apply Kept.bs | apply Kept.ck | apply Kept.bk | apply Kept.tm | apply Kept.wa | apply Kept.po | apply Kept.up | apply Kept.re | apply Kept.me | refine Kept.setCell ?_ (Or.inr (Nat.le_refl _)) _ | refine Kept.setCell ?_ (Or.inr (by omega)) _ | exact k1 | exact k2 | exact k3 | exact Kept.refl _ _))

/-- What is kept of a result's variable behind a call. -/
theorem own_zc {l : XL} {st : St} {ex : Ext} {w w1 : World} (hr : XRep l st ex w) (k : Kept l.own (w.alloc (.cells #[.int .i64 0, .int .i64 0, .int .u8 0, .int .u8 0] 54)) w1) :
    (w1.cell? ⟨w.heap.size, 0, none⟩ = some (.int .i64 0) ∧ w1.cell? ⟨w.heap.size, 1, none⟩ = some (.int .i64 0) ∧ w1.cell? ⟨w.heap.size, 2, none⟩ = some (.int .u8 0) ∧ w1.cell? ⟨w.heap.size, 3, none⟩ = some (.int .u8 0)) ∧ (w1.frozen? ⟨w.heap.size, 0, none⟩ = false ∧ w1.frozen? ⟨w.heap.size, 1, none⟩ = false ∧ w1.frozen? ⟨w.heap.size, 2, none⟩ = false ∧ w1.frozen? ⟨w.heap.size, 3, none⟩ = false) ∧ w.heap.size < w1.heap.size := by
  have h1 : w1.heap[w.heap.size]? = some zc := (k.block w.heap.size (by rw [World.size_alloc]; omega) (hr.fresh _ (Nat.le_refl _))).trans (heap_at w zc)
  unfold zc at h1
  refine ⟨⟨?_, ?_, ?_, ?_⟩, ⟨?_, ?_, ?_, ?_⟩, (Array.getElem?_eq_some_iff.1 h1).1⟩
  all_goals first | simp [World.cell?, h1] | simp [World.frozen?, h1]

set_option maxRecDepth 100000 in
set_option maxHeartbeats 1000000 in
theorem zfetch_more {n : Nat} {l : XL} {st : St} {ex : Ext} {w : World} (hr : XRep l st ex w) (h : Runs n st ex) (d : Int) (hd : st.read st.pc = d) (d0 : 0 ≤ d) (d1 : d ≤ 255) (hs0 : ¬ shapeN d = 0) (hs1 : ¬ shapeN d = 1) :
    Calls Tryz.prog 87 #[.pointer (some ⟨l.g, 0, none⟩), .iface 133 (.slice (some ⟨l.bs, 0, none⟩) 7 7)] w fun e w' => e = .returned (.agg #[.int .i64 3, .int .i64 st.pc, .int .u8 d, .int .u8 0]) ∧ XRep l { st with pc := (st.pc + 1) % 256 } { ex with op := d, ph := 1 } w' ∧ Kept l.own w w' := by
  have hfr := hr.fresh
  have hgl := hr.g_q
  have HA : Hid _ := fun o => zadv_any (hr.alloc o) h 3
  rw [hd] at HA
  have b0 : (shapeN d == 0) = false := by simpa using hs0
  have b1 : (shapeN d == 1) = false := by simpa using hs1
  clear hd hs0 hs1
  go_enter Tryz.func87, Tryz.ntmps87
  go_wp2_with fail
  refine Calls.mono (HA.out _) ?_
  rintro e w1 ⟨rfl, hr1, k1⟩
  obtain ⟨⟨a0, a1, a2, a3⟩, ⟨g0, g1, g2, g3⟩, hz⟩ := own_zc hr k1
  have c1 := hr1.c_op
  have f1 := hr1.f_op
  have c2 := hr1.c_ph
  have f2 := hr1.f_ph
  have hg1 := hr1.g_q
  have k2 : Kept l.own w w1 := ((Kept.refl _ w).alloc _).trans k1
  clear k1
  go_wp2_with fail
  refine (zshape_any d _ d0).mono ?_
  rintro e w2 ⟨rfl, rfl⟩
  go_wp2
  refine bodyPost_ret (v := .agg #[.int .i64 3, .int .i64 st.pc, .int .u8 d, .int .u8 0]) (by simp [results, Tryz.results87, go_sem, a0, a1, a2, a3, hz, Nat.ne_of_lt hgl, Nat.ne_of_gt hgl]) rfl ⟨rfl, ?r, ?k⟩
  case r =>
    apply XRep.as
    · (repeat (with_reducible first | apply XRep.alloc | apply XRep.drewN | apply XRep.drew | apply XRep.set_a | apply XRep.set_x | apply XRep.set_pc | apply XRep.set_zero | apply XRep.set_carry | apply XRep.set_ph | apply XRep.set_op | apply XRep.set_addr | apply XRep.set_wait | apply XRep.set_down | apply XRep.set_left | apply XRep.set_now | apply XRep.set_s0 | apply XRep.set_s1 | apply XRep.set_bank | apply XRep.set_period | apply XRep.set_next | apply XRep.set_flag | apply XRep.set_fed | apply XRep.set_window | apply XRep.set_taken | apply XRep.set_key | apply XRep.set_early | apply XRep.set_out | apply XRep.set_inp | apply XRep.set_opn | apply XRep.set_place | apply XRep.set_cause | (apply XRep.other; case hb => exact hfr _ (by omega)) | exact hr | exact hr1 | exact hr2 | exact hr3))
    · rfl
    · rfl
  case k => (repeat (with_reducible first | apply Kept.alloc | apply Kept.drewN | apply Kept.drew | apply Kept.nb | apply Kept.g | apply Kept.bs | apply Kept.ck | apply Kept.bk | apply Kept.tm | apply Kept.wa | apply Kept.po | apply Kept.up | apply Kept.re | apply Kept.me | refine Kept.setCell ?_ (Or.inr (Nat.le_refl _)) _ | refine Kept.setCell ?_ (Or.inr (by omega)) _ | exact k1 | exact k2 | exact k3 | exact Kept.refl _ _))

set_option maxRecDepth 100000 in
set_option maxHeartbeats 1000000 in
theorem zfetch_one {n : Nat} {l : XL} {st : St} {ex : Ext} {w : World} (hr : XRep l st ex w) (h : Runs n st ex) (d : Int) (hd : st.read st.pc = d) (d0 : 0 ≤ d) (d1 : d ≤ 255) (hs : shapeN d = 1) (hop : d = 0 ∨ d = 11 ∨ d = 12 ∨ d = 13 ∨ d = 14 ∨ d = 24) :
    Calls Tryz.prog 87 #[.pointer (some ⟨l.g, 0, none⟩), .iface 133 (.slice (some ⟨l.bs, 0, none⟩) 7 7)] w fun e w' => e = .returned (.agg #[.int .i64 3, .int .i64 st.pc, .int .u8 d, .int .u8 0]) ∧ XRep l (aloneS { st with pc := (st.pc + 1) % 256 } d) (aloneX { ex with op := d } d) w' ∧ Kept l.own w w' := by
  have hfr := hr.fresh
  have hgl := hr.g_q
  have HA : Hid _ := fun o => zadv_any (hr.alloc o) h 3
  rw [hd] at HA
  have hi1 : Inv { st with pc := (st.pc + 1) % 256 } := h.hi.next 3
  have HS : Hid (shapeN d = 1) := hs
  have HO : Hid _ := hop
  clear hd hs hop
  go_enter Tryz.func87, Tryz.ntmps87
  go_wp2_with fail
  refine Calls.mono (HA.out _) ?_
  rintro e w1 ⟨rfl, hr1, k1⟩
  obtain ⟨⟨a0, a1, a2, a3⟩, ⟨g0, g1, g2, g3⟩, hz⟩ := own_zc hr k1
  have c1 := hr1.c_op
  have f1 := hr1.f_op
  have hg1 := hr1.g_q
  have k2 : Kept l.own w w1 := ((Kept.refl _ w).alloc _).trans k1
  clear k1
  have HSI : Hid (∀ o, Calls Tryz.prog 100 #[.pointer (some ⟨l.g, 0, none⟩)] ((w1.setCell ⟨l.g, 6, none⟩ (.int .u8 d)).alloc o) fun e w' => e = .returned (.tuple #[]) ∧ XRep l (aloneS { st with pc := (st.pc + 1) % 256 } d) (aloneX { ex with op := d } d) w' ∧ Kept l.own ((w1.setCell ⟨l.g, 6, none⟩ (.int .u8 d)).alloc o) w') := fun o => zsingle_any ((hr1.set_op d).alloc o) hi1 d rfl HO.out
  have hfr1 := hr1.fresh
  go_wp2_with fail
  refine (zshape_any d _ d0).mono ?_
  rintro e w2 ⟨rfl, rfl⟩
  rw [HS.out]
  go_wp2_with fail
  refine Calls.mono (HSI.out _) ?_
  rintro e w3 ⟨rfl, hr3, k3⟩
  obtain ⟨hc, hf⟩ := kcell k3 (b := w.heap.size) (by simp; omega) (hfr _ (Nat.le_refl _))
  obtain ⟨hc2, hf2⟩ := kcell k3 (b := w1.heap.size) (by simp) (hfr1 _ (Nat.le_refl _))
  have hz3 : w1.heap.size < w3.heap.size := by have := k3.size; simp at this; omega
  have x0 : w3.cell? ⟨w.heap.size, 0, none⟩ = some (.int .i64 0) := by rw [hc]; simp [go_sem, a0, hz, Nat.ne_of_lt hgl, Nat.ne_of_gt hgl]
  have x1 : w3.cell? ⟨w.heap.size, 1, none⟩ = some (.int .i64 0) := by rw [hc]; simp [go_sem, a1, hz, Nat.ne_of_lt hgl, Nat.ne_of_gt hgl]
  have x2 : w3.cell? ⟨w.heap.size, 2, none⟩ = some (.int .u8 0) := by rw [hc]; simp [go_sem, a2, hz, Nat.ne_of_lt hgl, Nat.ne_of_gt hgl]
  have x3 : w3.cell? ⟨w.heap.size, 3, none⟩ = some (.int .u8 0) := by rw [hc]; simp [go_sem, a3, hz, Nat.ne_of_lt hgl, Nat.ne_of_gt hgl]
  have y0 : w3.frozen? ⟨w.heap.size, 0, none⟩ = false := by rw [hf]; simp [go_sem, g0, hz]
  have y1 : w3.frozen? ⟨w.heap.size, 1, none⟩ = false := by rw [hf]; simp [go_sem, g1, hz]
  have y2 : w3.frozen? ⟨w.heap.size, 2, none⟩ = false := by rw [hf]; simp [go_sem, g2, hz]
  have y3 : w3.frozen? ⟨w.heap.size, 3, none⟩ = false := by rw [hf]; simp [go_sem, g3, hz]
  have u0 : w3.cell? ⟨w1.heap.size, 0, none⟩ = some (.int .i64 3) := by rw [hc2]; simp [go_sem]
  have u1 : w3.cell? ⟨w1.heap.size, 1, none⟩ = some (.int .i64 st.pc) := by rw [hc2]; simp [go_sem]
  have u2 : w3.cell? ⟨w1.heap.size, 2, none⟩ = some (.int .u8 d) := by rw [hc2]; simp [go_sem]
  have u3 : w3.cell? ⟨w1.heap.size, 3, none⟩ = some (.int .u8 0) := by rw [hc2]; simp [go_sem]
  have k4 : Kept l.own w w3 := ((k2.g 6 (.int .u8 d)).alloc _).trans k3
  clear hc hf hc2 hf2 k3 k2
  go_wp2
  refine bodyPost_ret (v := .agg #[.int .i64 3, .int .i64 st.pc, .int .u8 d, .int .u8 0]) (by simp [results, Tryz.results87, go_sem, x0, x1, x2, x3]) rfl ⟨rfl, ?r, ?k⟩
  case r =>
    apply XRep.as
    · (repeat (with_reducible first | apply XRep.alloc | apply XRep.drewN | apply XRep.drew | apply XRep.set_a | apply XRep.set_x | apply XRep.set_pc | apply XRep.set_zero | apply XRep.set_carry | apply XRep.set_ph | apply XRep.set_op | apply XRep.set_addr | apply XRep.set_wait | apply XRep.set_down | apply XRep.set_left | apply XRep.set_now | apply XRep.set_s0 | apply XRep.set_s1 | apply XRep.set_bank | apply XRep.set_period | apply XRep.set_next | apply XRep.set_flag | apply XRep.set_fed | apply XRep.set_window | apply XRep.set_taken | apply XRep.set_key | apply XRep.set_early | apply XRep.set_out | apply XRep.set_inp | apply XRep.set_opn | apply XRep.set_place | apply XRep.set_cause | (apply XRep.other; case hb => exact hfr _ (by omega)) | exact hr | exact hr1 | exact hr2 | exact hr3))
    · rfl
    · rfl
  case k =>
    have k2 := k4
    (repeat (with_reducible first | apply Kept.alloc | apply Kept.drewN | apply Kept.drew | apply Kept.nb | apply Kept.g | apply Kept.bs | apply Kept.ck | apply Kept.bk | apply Kept.tm | apply Kept.wa | apply Kept.po | apply Kept.up | apply Kept.re | apply Kept.me | refine Kept.setCell ?_ (Or.inr (Nat.le_refl _)) _ | refine Kept.setCell ?_ (Or.inr (by omega)) _ | exact k1 | exact k2 | exact k3 | exact Kept.refl _ _))

end Go.Proofs.YtommhbidkoeifaaGreat
