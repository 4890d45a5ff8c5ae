/- The document's board: the third cycle of an instruction. -/
import Derived.Test.YtommhbidkoeifaaGreatRef5
import Derived.Test.YtommhbidkoeifaaGreatInvP
namespace Go.Proofs.YtommhbidkoeifaaGreat
open Go.RowKit
set_option linter.unusedVariables false

set_option maxRecDepth 100000 in
set_option maxHeartbeats 400000 in
theorem Rasks_3 {L : Lay} {st : St} {w : World} (hr : Rep L st w) (hi : Inv st) (hb : 0 ≤ st.bank) (at_ : Int) (h0 : 0 ≤ at_) (h1 : at_ ≤ 255) :
    Calls Tryz.prog 67 #[.pointer (some ⟨L.g, 0, none⟩), .int .i64 3, .int .i64 at_] w fun e w' => e = .returned (.agg #[.int .i64 (st.asks 3 at_).2.kind, .int .i64 (st.asks 3 at_).2.addr, .int .u8 (st.asks 3 at_).2.data, .int .u8 0]) ∧ Rep L (st.asks 3 at_).1 w' ∧ Kept L.own w w' := by
  have hfr := hr.fresh
  obtain ⟨l1, l2, l3⟩ := hr.lt
  obtain ⟨a0, a1⟩ := hi.a
  obtain ⟨x0, x1⟩ := hi.x
  have hb2 : st.bank = 0 ∨ st.bank = 1 := by have := hi.bank; omega
  have HF : Hid (st.asks 3 at_ = (st.write at_ st.a, ⟨6, at_, st.a, 0⟩)) := by simp [Hid, St.asks, St.target]
  have c1 := hr.c_a
  have c2 := hr.c_x
  go_enter Tryz.func67, Tryz.ntmps67
  go_wp2_with fail
  refine (Rwrite_any (hr.alloc _) hi hb2 at_ st.a (by omega) a0 a1).mono ?_
  rintro e w1 ⟨rfl, hr1, k1⟩
  obtain ⟨hc, hf⟩ := kcell k1 (b := w.heap.size) (by simp) (hfr _ (Nat.le_refl _))
  have k2 : Kept L.own w w1 := ((Kept.refl _ w).alloc _).trans k1
  have hz : w.heap.size < w1.heap.size := by have := k1.size; simp at this; omega
  clear k1 c1 c2
  go_wp2
  rw [HF.out]
  refine bodyPost_ret (v := .agg #[.int .i64 6, .int .i64 at_, .int .u8 st.a, .int .u8 0]) (by simp [results, Tryz.results67, go_sem, hc]) rfl ⟨rfl, ?r, ?k⟩
  case r =>
    apply Rep.as
    · (repeat (with_reducible first | apply Rep.alloc | apply Rep.drewN | apply Rep.drew | apply Rep.set_bank | apply Rep.set_s0 | apply Rep.set_s1 | apply Rep.set_cause | apply Rep.set_left | apply Rep.set_down | apply Rep.set_a | apply Rep.set_x | apply Rep.set_pc | apply Rep.set_zero | apply Rep.set_carry | apply Rep.set_op | apply Rep.set_opd | apply Rep.set_phase | apply Rep.set_period | apply Rep.set_count | apply Rep.set_flag | apply Rep.set_age | apply Rep.set_window | apply Rep.set_windowed | apply Rep.set_key | apply Rep.set_out | apply Rep.set_inp | apply Rep.set_opn | apply Rep.set_place | apply Rep.set_rst | (apply Rep.other; case hb => exact hfr _ (by omega)) | exact hr | exact hr1 | exact hr2 | exact hr3))
    · rfl
  case k => (repeat (with_reducible first | apply Kept.alloc | apply Kept.drewN | apply Kept.drew | apply Kept.rg | apply Kept.p | apply Kept.q | refine Kept.setCell ?_ (Or.inr (Nat.le_refl _)) _ | refine Kept.setCell ?_ (Or.inr (by omega)) _ | exact k1 | exact k2 | exact k3 | exact Kept.refl _ _))

set_option maxRecDepth 100000 in
set_option maxHeartbeats 400000 in
theorem Rasks_10 {L : Lay} {st : St} {w : World} (hr : Rep L st w) (hi : Inv st) (hb : 0 ≤ st.bank) (at_ : Int) (h0 : 0 ≤ at_) (h1 : at_ ≤ 255) :
    Calls Tryz.prog 67 #[.pointer (some ⟨L.g, 0, none⟩), .int .i64 10, .int .i64 at_] w fun e w' => e = .returned (.agg #[.int .i64 (st.asks 10 at_).2.kind, .int .i64 (st.asks 10 at_).2.addr, .int .u8 (st.asks 10 at_).2.data, .int .u8 0]) ∧ Rep L (st.asks 10 at_).1 w' ∧ Kept L.own w w' := by
  have hfr := hr.fresh
  obtain ⟨l1, l2, l3⟩ := hr.lt
  obtain ⟨a0, a1⟩ := hi.a
  obtain ⟨x0, x1⟩ := hi.x
  have hb2 : st.bank = 0 ∨ st.bank = 1 := by have := hi.bank; omega
  have HF : Hid (st.asks 10 at_ = (st.write ((at_ + st.x) % 256) st.a, ⟨6, ((at_ + st.x) % 256), st.a, 0⟩)) := by simp [Hid, St.asks, St.target]
  have c1 := hr.c_a
  have c2 := hr.c_x
  go_enter Tryz.func67, Tryz.ntmps67
  go_wp2_with fail
  refine (Rwrite_any (hr.alloc _) hi hb2 ((at_ + st.x) % 256) st.a (by omega) a0 a1).mono ?_
  rintro e w1 ⟨rfl, hr1, k1⟩
  obtain ⟨hc, hf⟩ := kcell k1 (b := w.heap.size) (by simp) (hfr _ (Nat.le_refl _))
  have k2 : Kept L.own w w1 := ((Kept.refl _ w).alloc _).trans k1
  have hz : w.heap.size < w1.heap.size := by have := k1.size; simp at this; omega
  clear k1 c1 c2
  go_wp2
  rw [HF.out]
  refine bodyPost_ret (v := .agg #[.int .i64 6, .int .i64 ((at_ + st.x) % 256), .int .u8 st.a, .int .u8 0]) (by simp [results, Tryz.results67, go_sem, hc]) rfl ⟨rfl, ?r, ?k⟩
  case r =>
    apply Rep.as
    · (repeat (with_reducible first | apply Rep.alloc | apply Rep.drewN | apply Rep.drew | apply Rep.set_bank | apply Rep.set_s0 | apply Rep.set_s1 | apply Rep.set_cause | apply Rep.set_left | apply Rep.set_down | apply Rep.set_a | apply Rep.set_x | apply Rep.set_pc | apply Rep.set_zero | apply Rep.set_carry | apply Rep.set_op | apply Rep.set_opd | apply Rep.set_phase | apply Rep.set_period | apply Rep.set_count | apply Rep.set_flag | apply Rep.set_age | apply Rep.set_window | apply Rep.set_windowed | apply Rep.set_key | apply Rep.set_out | apply Rep.set_inp | apply Rep.set_opn | apply Rep.set_place | apply Rep.set_rst | (apply Rep.other; case hb => exact hfr _ (by omega)) | exact hr | exact hr1 | exact hr2 | exact hr3))
    · rfl
  case k => (repeat (with_reducible first | apply Kept.alloc | apply Kept.drewN | apply Kept.drew | apply Kept.rg | apply Kept.p | apply Kept.q | refine Kept.setCell ?_ (Or.inr (Nat.le_refl _)) _ | refine Kept.setCell ?_ (Or.inr (by omega)) _ | exact k1 | exact k2 | exact k3 | exact Kept.refl _ _))

set_option maxRecDepth 100000 in
set_option maxHeartbeats 400000 in
theorem Rasks_2 {L : Lay} {st : St} {w : World} (hr : Rep L st w) (hi : Inv st) (hb : 0 ≤ st.bank) (at_ : Int) (h0 : 0 ≤ at_) (h1 : at_ ≤ 255) :
    Calls Tryz.prog 67 #[.pointer (some ⟨L.g, 0, none⟩), .int .i64 2, .int .i64 at_] w fun e w' => e = .returned (.agg #[.int .i64 (st.asks 2 at_).2.kind, .int .i64 (st.asks 2 at_).2.addr, .int .u8 (st.asks 2 at_).2.data, .int .u8 0]) ∧ Rep L (st.asks 2 at_).1 w' ∧ Kept L.own w w' := by
  have hfr := hr.fresh
  obtain ⟨l1, l2, l3⟩ := hr.lt
  obtain ⟨a0, a1⟩ := hi.a
  obtain ⟨x0, x1⟩ := hi.x
  have hb2 : st.bank = 0 ∨ st.bank = 1 := by have := hi.bank; omega
  obtain ⟨r0, r1⟩ := read_bounds hi hb at_
  have HF : Hid (st.asks 2 at_ = (st.takes 2 (st.read at_), ⟨5, at_, st.read at_, 0⟩)) := by simp [Hid, St.asks, St.target]
  have c1 := hr.c_a
  have c2 := hr.c_x
  have c3 := hr.c_carry
  have f3 := hr.f_carry
  go_enter Tryz.func67, Tryz.ntmps67
  go_wp2_with fail
  refine (Rread_any (hr.alloc _) hi hb at_ (by omega)).mono ?_
  rintro e w1 ⟨rfl, nq, rfl⟩
  go_wp2_with fail
  refine (Rset_any (st := st) ?hrep (st.read at_) (by omega) (by omega)).mono ?_
  case hrep =>
    apply Rep.as
    · (repeat (with_reducible first | apply Rep.alloc | apply Rep.drewN | apply Rep.drew | apply Rep.set_bank | apply Rep.set_s0 | apply Rep.set_s1 | apply Rep.set_cause | apply Rep.set_left | apply Rep.set_down | apply Rep.set_a | apply Rep.set_x | apply Rep.set_pc | apply Rep.set_zero | apply Rep.set_carry | apply Rep.set_op | apply Rep.set_opd | apply Rep.set_phase | apply Rep.set_period | apply Rep.set_count | apply Rep.set_flag | apply Rep.set_age | apply Rep.set_window | apply Rep.set_windowed | apply Rep.set_key | apply Rep.set_out | apply Rep.set_inp | apply Rep.set_opn | apply Rep.set_place | apply Rep.set_rst | (apply Rep.other; case hb => exact hfr _ (by omega)) | exact hr | exact hr1 | exact hr2 | exact hr3))
    · rfl
  rintro e w2 ⟨rfl, hr1, k1⟩
  obtain ⟨hc, hf⟩ := kcell k1 (b := w.heap.size) (by simp) (hfr _ (Nat.le_refl _))
  have k2 : Kept L.own w w2 := by
    refine Kept.trans ?_ k1
    (repeat (with_reducible first | apply Kept.alloc | apply Kept.drewN | apply Kept.drew | apply Kept.rg | apply Kept.p | apply Kept.q | refine Kept.setCell ?_ (Or.inr (Nat.le_refl _)) _ | refine Kept.setCell ?_ (Or.inr (by omega)) _ | exact k1 | exact k2 | exact k3 | exact Kept.refl _ _))
  have hz : w.heap.size < w2.heap.size := by have := k1.size; simp at this; omega
  clear k1 c1 c2 c3 f3
  go_wp2
  rw [HF.out]
  refine bodyPost_ret (v := .agg #[.int .i64 5, .int .i64 at_, .int .u8 (st.read at_), .int .u8 0]) (by simp [results, Tryz.results67, go_sem, hc]) rfl ⟨rfl, ?r, ?k⟩
  case r =>
    apply Rep.as
    · (repeat (with_reducible first | apply Rep.alloc | apply Rep.drewN | apply Rep.drew | apply Rep.set_bank | apply Rep.set_s0 | apply Rep.set_s1 | apply Rep.set_cause | apply Rep.set_left | apply Rep.set_down | apply Rep.set_a | apply Rep.set_x | apply Rep.set_pc | apply Rep.set_zero | apply Rep.set_carry | apply Rep.set_op | apply Rep.set_opd | apply Rep.set_phase | apply Rep.set_period | apply Rep.set_count | apply Rep.set_flag | apply Rep.set_age | apply Rep.set_window | apply Rep.set_windowed | apply Rep.set_key | apply Rep.set_out | apply Rep.set_inp | apply Rep.set_opn | apply Rep.set_place | apply Rep.set_rst | (apply Rep.other; case hb => exact hfr _ (by omega)) | exact hr | exact hr1 | exact hr2 | exact hr3))
    · rfl
  case k => (repeat (with_reducible first | apply Kept.alloc | apply Kept.drewN | apply Kept.drew | apply Kept.rg | apply Kept.p | apply Kept.q | refine Kept.setCell ?_ (Or.inr (Nat.le_refl _)) _ | refine Kept.setCell ?_ (Or.inr (by omega)) _ | exact k1 | exact k2 | exact k3 | exact Kept.refl _ _))

set_option maxRecDepth 100000 in
set_option maxHeartbeats 400000 in
theorem Rasks_4 {L : Lay} {st : St} {w : World} (hr : Rep L st w) (hi : Inv st) (hb : 0 ≤ st.bank) (at_ : Int) (h0 : 0 ≤ at_) (h1 : at_ ≤ 255) :
    Calls Tryz.prog 67 #[.pointer (some ⟨L.g, 0, none⟩), .int .i64 4, .int .i64 at_] w fun e w' => e = .returned (.agg #[.int .i64 (st.asks 4 at_).2.kind, .int .i64 (st.asks 4 at_).2.addr, .int .u8 (st.asks 4 at_).2.data, .int .u8 0]) ∧ Rep L (st.asks 4 at_).1 w' ∧ Kept L.own w w' := by
  have hfr := hr.fresh
  obtain ⟨l1, l2, l3⟩ := hr.lt
  obtain ⟨a0, a1⟩ := hi.a
  obtain ⟨x0, x1⟩ := hi.x
  have hb2 : st.bank = 0 ∨ st.bank = 1 := by have := hi.bank; omega
  obtain ⟨r0, r1⟩ := read_bounds hi hb at_
  have HF : Hid (st.asks 4 at_ = (st.takes 4 (st.read at_), ⟨5, at_, st.read at_, 0⟩)) := by simp [Hid, St.asks, St.target]
  have c1 := hr.c_a
  have c2 := hr.c_x
  have c3 := hr.c_carry
  have f3 := hr.f_carry
  go_enter Tryz.func67, Tryz.ntmps67
  go_wp2_with fail
  refine (Rread_any (hr.alloc _) hi hb at_ (by omega)).mono ?_
  rintro e w1 ⟨rfl, nq, rfl⟩
  go_wp2_with fail
  refine (Rset_any (st := { st with carry := decide (255 < st.a + st.read at_) }) ?hrep (st.a + st.read at_) (by omega) (by omega)).mono ?_
  case hrep =>
    apply Rep.as
    · (repeat (with_reducible first | apply Rep.alloc | apply Rep.drewN | apply Rep.drew | apply Rep.set_bank | apply Rep.set_s0 | apply Rep.set_s1 | apply Rep.set_cause | apply Rep.set_left | apply Rep.set_down | apply Rep.set_a | apply Rep.set_x | apply Rep.set_pc | apply Rep.set_zero | apply Rep.set_carry | apply Rep.set_op | apply Rep.set_opd | apply Rep.set_phase | apply Rep.set_period | apply Rep.set_count | apply Rep.set_flag | apply Rep.set_age | apply Rep.set_window | apply Rep.set_windowed | apply Rep.set_key | apply Rep.set_out | apply Rep.set_inp | apply Rep.set_opn | apply Rep.set_place | apply Rep.set_rst | (apply Rep.other; case hb => exact hfr _ (by omega)) | exact hr | exact hr1 | exact hr2 | exact hr3))
    · rfl
  rintro e w2 ⟨rfl, hr1, k1⟩
  obtain ⟨hc, hf⟩ := kcell k1 (b := w.heap.size) (by simp) (hfr _ (Nat.le_refl _))
  have k2 : Kept L.own w w2 := by
    refine Kept.trans ?_ k1
    (repeat (with_reducible first | apply Kept.alloc | apply Kept.drewN | apply Kept.drew | apply Kept.rg | apply Kept.p | apply Kept.q | refine Kept.setCell ?_ (Or.inr (Nat.le_refl _)) _ | refine Kept.setCell ?_ (Or.inr (by omega)) _ | exact k1 | exact k2 | exact k3 | exact Kept.refl _ _))
  have hz : w.heap.size < w2.heap.size := by have := k1.size; simp at this; omega
  clear k1 c1 c2 c3 f3
  go_wp2
  rw [HF.out]
  refine bodyPost_ret (v := .agg #[.int .i64 5, .int .i64 at_, .int .u8 (st.read at_), .int .u8 0]) (by simp [results, Tryz.results67, go_sem, hc]) rfl ⟨rfl, ?r, ?k⟩
  case r =>
    apply Rep.as
    · (repeat (with_reducible first | apply Rep.alloc | apply Rep.drewN | apply Rep.drew | apply Rep.set_bank | apply Rep.set_s0 | apply Rep.set_s1 | apply Rep.set_cause | apply Rep.set_left | apply Rep.set_down | apply Rep.set_a | apply Rep.set_x | apply Rep.set_pc | apply Rep.set_zero | apply Rep.set_carry | apply Rep.set_op | apply Rep.set_opd | apply Rep.set_phase | apply Rep.set_period | apply Rep.set_count | apply Rep.set_flag | apply Rep.set_age | apply Rep.set_window | apply Rep.set_windowed | apply Rep.set_key | apply Rep.set_out | apply Rep.set_inp | apply Rep.set_opn | apply Rep.set_place | apply Rep.set_rst | (apply Rep.other; case hb => exact hfr _ (by omega)) | exact hr | exact hr1 | exact hr2 | exact hr3))
    · rfl
  case k => (repeat (with_reducible first | apply Kept.alloc | apply Kept.drewN | apply Kept.drew | apply Kept.rg | apply Kept.p | apply Kept.q | refine Kept.setCell ?_ (Or.inr (Nat.le_refl _)) _ | refine Kept.setCell ?_ (Or.inr (by omega)) _ | exact k1 | exact k2 | exact k3 | exact Kept.refl _ _))

set_option maxRecDepth 100000 in
set_option maxHeartbeats 400000 in
theorem Rasks_5 {L : Lay} {st : St} {w : World} (hr : Rep L st w) (hi : Inv st) (hb : 0 ≤ st.bank) (at_ : Int) (h0 : 0 ≤ at_) (h1 : at_ ≤ 255) :
    Calls Tryz.prog 67 #[.pointer (some ⟨L.g, 0, none⟩), .int .i64 5, .int .i64 at_] w fun e w' => e = .returned (.agg #[.int .i64 (st.asks 5 at_).2.kind, .int .i64 (st.asks 5 at_).2.addr, .int .u8 (st.asks 5 at_).2.data, .int .u8 0]) ∧ Rep L (st.asks 5 at_).1 w' ∧ Kept L.own w w' := by
  have hfr := hr.fresh
  obtain ⟨l1, l2, l3⟩ := hr.lt
  obtain ⟨a0, a1⟩ := hi.a
  obtain ⟨x0, x1⟩ := hi.x
  have hb2 : st.bank = 0 ∨ st.bank = 1 := by have := hi.bank; omega
  obtain ⟨r0, r1⟩ := read_bounds hi hb at_
  have HF : Hid (st.asks 5 at_ = (st.takes 5 (st.read at_), ⟨5, at_, st.read at_, 0⟩)) := by simp [Hid, St.asks, St.target]
  have c1 := hr.c_a
  have c2 := hr.c_x
  have c3 := hr.c_carry
  have f3 := hr.f_carry
  go_enter Tryz.func67, Tryz.ntmps67
  go_wp2_with fail
  refine (Rread_any (hr.alloc _) hi hb at_ (by omega)).mono ?_
  rintro e w1 ⟨rfl, nq, rfl⟩
  go_wp2_with fail
  refine (Rset_any (st := { st with carry := decide (st.a < st.read at_) }) ?hrep (st.a - st.read at_) (by omega) (by omega)).mono ?_
  case hrep =>
    apply Rep.as
    · (repeat (with_reducible first | apply Rep.alloc | apply Rep.drewN | apply Rep.drew | apply Rep.set_bank | apply Rep.set_s0 | apply Rep.set_s1 | apply Rep.set_cause | apply Rep.set_left | apply Rep.set_down | apply Rep.set_a | apply Rep.set_x | apply Rep.set_pc | apply Rep.set_zero | apply Rep.set_carry | apply Rep.set_op | apply Rep.set_opd | apply Rep.set_phase | apply Rep.set_period | apply Rep.set_count | apply Rep.set_flag | apply Rep.set_age | apply Rep.set_window | apply Rep.set_windowed | apply Rep.set_key | apply Rep.set_out | apply Rep.set_inp | apply Rep.set_opn | apply Rep.set_place | apply Rep.set_rst | (apply Rep.other; case hb => exact hfr _ (by omega)) | exact hr | exact hr1 | exact hr2 | exact hr3))
    · rfl
  rintro e w2 ⟨rfl, hr1, k1⟩
  obtain ⟨hc, hf⟩ := kcell k1 (b := w.heap.size) (by simp) (hfr _ (Nat.le_refl _))
  have k2 : Kept L.own w w2 := by
    refine Kept.trans ?_ k1
    (repeat (with_reducible first | apply Kept.alloc | apply Kept.drewN | apply Kept.drew | apply Kept.rg | apply Kept.p | apply Kept.q | refine Kept.setCell ?_ (Or.inr (Nat.le_refl _)) _ | refine Kept.setCell ?_ (Or.inr (by omega)) _ | exact k1 | exact k2 | exact k3 | exact Kept.refl _ _))
  have hz : w.heap.size < w2.heap.size := by have := k1.size; simp at this; omega
  clear k1 c1 c2 c3 f3
  go_wp2
  rw [HF.out]
  refine bodyPost_ret (v := .agg #[.int .i64 5, .int .i64 at_, .int .u8 (st.read at_), .int .u8 0]) (by simp [results, Tryz.results67, go_sem, hc]) rfl ⟨rfl, ?r, ?k⟩
  case r =>
    apply Rep.as
    · (repeat (with_reducible first | apply Rep.alloc | apply Rep.drewN | apply Rep.drew | apply Rep.set_bank | apply Rep.set_s0 | apply Rep.set_s1 | apply Rep.set_cause | apply Rep.set_left | apply Rep.set_down | apply Rep.set_a | apply Rep.set_x | apply Rep.set_pc | apply Rep.set_zero | apply Rep.set_carry | apply Rep.set_op | apply Rep.set_opd | apply Rep.set_phase | apply Rep.set_period | apply Rep.set_count | apply Rep.set_flag | apply Rep.set_age | apply Rep.set_window | apply Rep.set_windowed | apply Rep.set_key | apply Rep.set_out | apply Rep.set_inp | apply Rep.set_opn | apply Rep.set_place | apply Rep.set_rst | (apply Rep.other; case hb => exact hfr _ (by omega)) | exact hr | exact hr1 | exact hr2 | exact hr3))
    · rfl
  case k => (repeat (with_reducible first | apply Kept.alloc | apply Kept.drewN | apply Kept.drew | apply Kept.rg | apply Kept.p | apply Kept.q | refine Kept.setCell ?_ (Or.inr (Nat.le_refl _)) _ | refine Kept.setCell ?_ (Or.inr (by omega)) _ | exact k1 | exact k2 | exact k3 | exact Kept.refl _ _))

set_option maxRecDepth 100000 in
set_option maxHeartbeats 400000 in
theorem Rasks_6 {L : Lay} {st : St} {w : World} (hr : Rep L st w) (hi : Inv st) (hb : 0 ≤ st.bank) (at_ : Int) (h0 : 0 ≤ at_) (h1 : at_ ≤ 255) :
    Calls Tryz.prog 67 #[.pointer (some ⟨L.g, 0, none⟩), .int .i64 6, .int .i64 at_] w fun e w' => e = .returned (.agg #[.int .i64 (st.asks 6 at_).2.kind, .int .i64 (st.asks 6 at_).2.addr, .int .u8 (st.asks 6 at_).2.data, .int .u8 0]) ∧ Rep L (st.asks 6 at_).1 w' ∧ Kept L.own w w' := by
  have hfr := hr.fresh
  obtain ⟨l1, l2, l3⟩ := hr.lt
  obtain ⟨a0, a1⟩ := hi.a
  obtain ⟨x0, x1⟩ := hi.x
  have hb2 : st.bank = 0 ∨ st.bank = 1 := by have := hi.bank; omega
  obtain ⟨r0, r1⟩ := read_bounds hi hb at_
  have HF : Hid (st.asks 6 at_ = (st.takes 6 (st.read at_), ⟨5, at_, st.read at_, 0⟩)) := by simp [Hid, St.asks, St.target]
  have c1 := hr.c_a
  have c2 := hr.c_x
  have c3 := hr.c_carry
  have f3 := hr.f_carry
  have HN : Hid (bits .and .i64 st.a (st.read at_) = andN st.a (st.read at_)) := i64_and _ _ a0 a1 r0 r1
  obtain ⟨n0, n1⟩ := andN_bounds st.a (st.read at_) a0 a1 r0 r1
  go_enter Tryz.func67, Tryz.ntmps67
  go_wp2_with fail
  refine (Rread_any (hr.alloc _) hi hb at_ (by omega)).mono ?_
  rintro e w1 ⟨rfl, nq, rfl⟩
  go_wp2_with fail
  rw [HN.out]
  refine (Rset_any (st := st) ?hrep (andN st.a (st.read at_)) (by omega) (by omega)).mono ?_
  case hrep =>
    apply Rep.as
    · (repeat (with_reducible first | apply Rep.alloc | apply Rep.drewN | apply Rep.drew | apply Rep.set_bank | apply Rep.set_s0 | apply Rep.set_s1 | apply Rep.set_cause | apply Rep.set_left | apply Rep.set_down | apply Rep.set_a | apply Rep.set_x | apply Rep.set_pc | apply Rep.set_zero | apply Rep.set_carry | apply Rep.set_op | apply Rep.set_opd | apply Rep.set_phase | apply Rep.set_period | apply Rep.set_count | apply Rep.set_flag | apply Rep.set_age | apply Rep.set_window | apply Rep.set_windowed | apply Rep.set_key | apply Rep.set_out | apply Rep.set_inp | apply Rep.set_opn | apply Rep.set_place | apply Rep.set_rst | (apply Rep.other; case hb => exact hfr _ (by omega)) | exact hr | exact hr1 | exact hr2 | exact hr3))
    · rfl
  rintro e w2 ⟨rfl, hr1, k1⟩
  obtain ⟨hc, hf⟩ := kcell k1 (b := w.heap.size) (by simp) (hfr _ (Nat.le_refl _))
  have k2 : Kept L.own w w2 := by
    refine Kept.trans ?_ k1
    (repeat (with_reducible first | apply Kept.alloc | apply Kept.drewN | apply Kept.drew | apply Kept.rg | apply Kept.p | apply Kept.q | refine Kept.setCell ?_ (Or.inr (Nat.le_refl _)) _ | refine Kept.setCell ?_ (Or.inr (by omega)) _ | exact k1 | exact k2 | exact k3 | exact Kept.refl _ _))
  have hz : w.heap.size < w2.heap.size := by have := k1.size; simp at this; omega
  clear k1 c1 c2 c3 f3
  go_wp2
  rw [HF.out]
  refine bodyPost_ret (v := .agg #[.int .i64 5, .int .i64 at_, .int .u8 (st.read at_), .int .u8 0]) (by simp [results, Tryz.results67, go_sem, hc]) rfl ⟨rfl, ?r, ?k⟩
  case r =>
    apply Rep.as
    · (repeat (with_reducible first | apply Rep.alloc | apply Rep.drewN | apply Rep.drew | apply Rep.set_bank | apply Rep.set_s0 | apply Rep.set_s1 | apply Rep.set_cause | apply Rep.set_left | apply Rep.set_down | apply Rep.set_a | apply Rep.set_x | apply Rep.set_pc | apply Rep.set_zero | apply Rep.set_carry | apply Rep.set_op | apply Rep.set_opd | apply Rep.set_phase | apply Rep.set_period | apply Rep.set_count | apply Rep.set_flag | apply Rep.set_age | apply Rep.set_window | apply Rep.set_windowed | apply Rep.set_key | apply Rep.set_out | apply Rep.set_inp | apply Rep.set_opn | apply Rep.set_place | apply Rep.set_rst | (apply Rep.other; case hb => exact hfr _ (by omega)) | exact hr | exact hr1 | exact hr2 | exact hr3))
    · rfl
  case k => (repeat (with_reducible first | apply Kept.alloc | apply Kept.drewN | apply Kept.drew | apply Kept.rg | apply Kept.p | apply Kept.q | refine Kept.setCell ?_ (Or.inr (Nat.le_refl _)) _ | refine Kept.setCell ?_ (Or.inr (by omega)) _ | exact k1 | exact k2 | exact k3 | exact Kept.refl _ _))

set_option maxRecDepth 100000 in
set_option maxHeartbeats 400000 in
theorem Rasks_7 {L : Lay} {st : St} {w : World} (hr : Rep L st w) (hi : Inv st) (hb : 0 ≤ st.bank) (at_ : Int) (h0 : 0 ≤ at_) (h1 : at_ ≤ 255) :
    Calls Tryz.prog 67 #[.pointer (some ⟨L.g, 0, none⟩), .int .i64 7, .int .i64 at_] w fun e w' => e = .returned (.agg #[.int .i64 (st.asks 7 at_).2.kind, .int .i64 (st.asks 7 at_).2.addr, .int .u8 (st.asks 7 at_).2.data, .int .u8 0]) ∧ Rep L (st.asks 7 at_).1 w' ∧ Kept L.own w w' := by
  have hfr := hr.fresh
  obtain ⟨l1, l2, l3⟩ := hr.lt
  obtain ⟨a0, a1⟩ := hi.a
  obtain ⟨x0, x1⟩ := hi.x
  have hb2 : st.bank = 0 ∨ st.bank = 1 := by have := hi.bank; omega
  obtain ⟨r0, r1⟩ := read_bounds hi hb at_
  have HF : Hid (st.asks 7 at_ = (st.takes 7 (st.read at_), ⟨5, at_, st.read at_, 0⟩)) := by simp [Hid, St.asks, St.target]
  have c1 := hr.c_a
  have c2 := hr.c_x
  have c3 := hr.c_carry
  have f3 := hr.f_carry
  have HN : Hid (bits .or .i64 st.a (st.read at_) = orN st.a (st.read at_)) := i64_or _ _ a0 a1 r0 r1
  obtain ⟨n0, n1⟩ := orN_bounds st.a (st.read at_) a0 a1 r0 r1
  go_enter Tryz.func67, Tryz.ntmps67
  go_wp2_with fail
  refine (Rread_any (hr.alloc _) hi hb at_ (by omega)).mono ?_
  rintro e w1 ⟨rfl, nq, rfl⟩
  go_wp2_with fail
  rw [HN.out]
  refine (Rset_any (st := st) ?hrep (orN st.a (st.read at_)) (by omega) (by omega)).mono ?_
  case hrep =>
    apply Rep.as
    · (repeat (with_reducible first | apply Rep.alloc | apply Rep.drewN | apply Rep.drew | apply Rep.set_bank | apply Rep.set_s0 | apply Rep.set_s1 | apply Rep.set_cause | apply Rep.set_left | apply Rep.set_down | apply Rep.set_a | apply Rep.set_x | apply Rep.set_pc | apply Rep.set_zero | apply Rep.set_carry | apply Rep.set_op | apply Rep.set_opd | apply Rep.set_phase | apply Rep.set_period | apply Rep.set_count | apply Rep.set_flag | apply Rep.set_age | apply Rep.set_window | apply Rep.set_windowed | apply Rep.set_key | apply Rep.set_out | apply Rep.set_inp | apply Rep.set_opn | apply Rep.set_place | apply Rep.set_rst | (apply Rep.other; case hb => exact hfr _ (by omega)) | exact hr | exact hr1 | exact hr2 | exact hr3))
    · rfl
  rintro e w2 ⟨rfl, hr1, k1⟩
  obtain ⟨hc, hf⟩ := kcell k1 (b := w.heap.size) (by simp) (hfr _ (Nat.le_refl _))
  have k2 : Kept L.own w w2 := by
    refine Kept.trans ?_ k1
    (repeat (with_reducible first | apply Kept.alloc | apply Kept.drewN | apply Kept.drew | apply Kept.rg | apply Kept.p | apply Kept.q | refine Kept.setCell ?_ (Or.inr (Nat.le_refl _)) _ | refine Kept.setCell ?_ (Or.inr (by omega)) _ | exact k1 | exact k2 | exact k3 | exact Kept.refl _ _))
  have hz : w.heap.size < w2.heap.size := by have := k1.size; simp at this; omega
  clear k1 c1 c2 c3 f3
  go_wp2
  rw [HF.out]
  refine bodyPost_ret (v := .agg #[.int .i64 5, .int .i64 at_, .int .u8 (st.read at_), .int .u8 0]) (by simp [results, Tryz.results67, go_sem, hc]) rfl ⟨rfl, ?r, ?k⟩
  case r =>
    apply Rep.as
    · (repeat (with_reducible first | apply Rep.alloc | apply Rep.drewN | apply Rep.drew | apply Rep.set_bank | apply Rep.set_s0 | apply Rep.set_s1 | apply Rep.set_cause | apply Rep.set_left | apply Rep.set_down | apply Rep.set_a | apply Rep.set_x | apply Rep.set_pc | apply Rep.set_zero | apply Rep.set_carry | apply Rep.set_op | apply Rep.set_opd | apply Rep.set_phase | apply Rep.set_period | apply Rep.set_count | apply Rep.set_flag | apply Rep.set_age | apply Rep.set_window | apply Rep.set_windowed | apply Rep.set_key | apply Rep.set_out | apply Rep.set_inp | apply Rep.set_opn | apply Rep.set_place | apply Rep.set_rst | (apply Rep.other; case hb => exact hfr _ (by omega)) | exact hr | exact hr1 | exact hr2 | exact hr3))
    · rfl
  case k => (repeat (with_reducible first | apply Kept.alloc | apply Kept.drewN | apply Kept.drew | apply Kept.rg | apply Kept.p | apply Kept.q | refine Kept.setCell ?_ (Or.inr (Nat.le_refl _)) _ | refine Kept.setCell ?_ (Or.inr (by omega)) _ | exact k1 | exact k2 | exact k3 | exact Kept.refl _ _))

set_option maxRecDepth 100000 in
set_option maxHeartbeats 400000 in
theorem Rasks_8 {L : Lay} {st : St} {w : World} (hr : Rep L st w) (hi : Inv st) (hb : 0 ≤ st.bank) (at_ : Int) (h0 : 0 ≤ at_) (h1 : at_ ≤ 255) :
    Calls Tryz.prog 67 #[.pointer (some ⟨L.g, 0, none⟩), .int .i64 8, .int .i64 at_] w fun e w' => e = .returned (.agg #[.int .i64 (st.asks 8 at_).2.kind, .int .i64 (st.asks 8 at_).2.addr, .int .u8 (st.asks 8 at_).2.data, .int .u8 0]) ∧ Rep L (st.asks 8 at_).1 w' ∧ Kept L.own w w' := by
  have hfr := hr.fresh
  obtain ⟨l1, l2, l3⟩ := hr.lt
  obtain ⟨a0, a1⟩ := hi.a
  obtain ⟨x0, x1⟩ := hi.x
  have hb2 : st.bank = 0 ∨ st.bank = 1 := by have := hi.bank; omega
  obtain ⟨r0, r1⟩ := read_bounds hi hb at_
  have HF : Hid (st.asks 8 at_ = (st.takes 8 (st.read at_), ⟨5, at_, st.read at_, 0⟩)) := by simp [Hid, St.asks, St.target]
  have c1 := hr.c_a
  have c2 := hr.c_x
  have c3 := hr.c_carry
  have f3 := hr.f_carry
  have HN : Hid (bits .xor .i64 st.a (st.read at_) = xorN st.a (st.read at_)) := i64_xor _ _ a0 a1 r0 r1
  obtain ⟨n0, n1⟩ := xorN_bounds st.a (st.read at_) a0 a1 r0 r1
  go_enter Tryz.func67, Tryz.ntmps67
  go_wp2_with fail
  refine (Rread_any (hr.alloc _) hi hb at_ (by omega)).mono ?_
  rintro e w1 ⟨rfl, nq, rfl⟩
  go_wp2_with fail
  rw [HN.out]
  refine (Rset_any (st := st) ?hrep (xorN st.a (st.read at_)) (by omega) (by omega)).mono ?_
  case hrep =>
    apply Rep.as
    · (repeat (with_reducible first | apply Rep.alloc | apply Rep.drewN | apply Rep.drew | apply Rep.set_bank | apply Rep.set_s0 | apply Rep.set_s1 | apply Rep.set_cause | apply Rep.set_left | apply Rep.set_down | apply Rep.set_a | apply Rep.set_x | apply Rep.set_pc | apply Rep.set_zero | apply Rep.set_carry | apply Rep.set_op | apply Rep.set_opd | apply Rep.set_phase | apply Rep.set_period | apply Rep.set_count | apply Rep.set_flag | apply Rep.set_age | apply Rep.set_window | apply Rep.set_windowed | apply Rep.set_key | apply Rep.set_out | apply Rep.set_inp | apply Rep.set_opn | apply Rep.set_place | apply Rep.set_rst | (apply Rep.other; case hb => exact hfr _ (by omega)) | exact hr | exact hr1 | exact hr2 | exact hr3))
    · rfl
  rintro e w2 ⟨rfl, hr1, k1⟩
  obtain ⟨hc, hf⟩ := kcell k1 (b := w.heap.size) (by simp) (hfr _ (Nat.le_refl _))
  have k2 : Kept L.own w w2 := by
    refine Kept.trans ?_ k1
    (repeat (with_reducible first | apply Kept.alloc | apply Kept.drewN | apply Kept.drew | apply Kept.rg | apply Kept.p | apply Kept.q | refine Kept.setCell ?_ (Or.inr (Nat.le_refl _)) _ | refine Kept.setCell ?_ (Or.inr (by omega)) _ | exact k1 | exact k2 | exact k3 | exact Kept.refl _ _))
  have hz : w.heap.size < w2.heap.size := by have := k1.size; simp at this; omega
  clear k1 c1 c2 c3 f3
  go_wp2
  rw [HF.out]
  refine bodyPost_ret (v := .agg #[.int .i64 5, .int .i64 at_, .int .u8 (st.read at_), .int .u8 0]) (by simp [results, Tryz.results67, go_sem, hc]) rfl ⟨rfl, ?r, ?k⟩
  case r =>
    apply Rep.as
    · (repeat (with_reducible first | apply Rep.alloc | apply Rep.drewN | apply Rep.drew | apply Rep.set_bank | apply Rep.set_s0 | apply Rep.set_s1 | apply Rep.set_cause | apply Rep.set_left | apply Rep.set_down | apply Rep.set_a | apply Rep.set_x | apply Rep.set_pc | apply Rep.set_zero | apply Rep.set_carry | apply Rep.set_op | apply Rep.set_opd | apply Rep.set_phase | apply Rep.set_period | apply Rep.set_count | apply Rep.set_flag | apply Rep.set_age | apply Rep.set_window | apply Rep.set_windowed | apply Rep.set_key | apply Rep.set_out | apply Rep.set_inp | apply Rep.set_opn | apply Rep.set_place | apply Rep.set_rst | (apply Rep.other; case hb => exact hfr _ (by omega)) | exact hr | exact hr1 | exact hr2 | exact hr3))
    · rfl
  case k => (repeat (with_reducible first | apply Kept.alloc | apply Kept.drewN | apply Kept.drew | apply Kept.rg | apply Kept.p | apply Kept.q | refine Kept.setCell ?_ (Or.inr (Nat.le_refl _)) _ | refine Kept.setCell ?_ (Or.inr (by omega)) _ | exact k1 | exact k2 | exact k3 | exact Kept.refl _ _))

set_option maxRecDepth 100000 in
set_option maxHeartbeats 400000 in
theorem Rasks_9 {L : Lay} {st : St} {w : World} (hr : Rep L st w) (hi : Inv st) (hb : 0 ≤ st.bank) (at_ : Int) (h0 : 0 ≤ at_) (h1 : at_ ≤ 255) :
    Calls Tryz.prog 67 #[.pointer (some ⟨L.g, 0, none⟩), .int .i64 9, .int .i64 at_] w fun e w' => e = .returned (.agg #[.int .i64 (st.asks 9 at_).2.kind, .int .i64 (st.asks 9 at_).2.addr, .int .u8 (st.asks 9 at_).2.data, .int .u8 0]) ∧ Rep L (st.asks 9 at_).1 w' ∧ Kept L.own w w' := by
  have hfr := hr.fresh
  obtain ⟨l1, l2, l3⟩ := hr.lt
  obtain ⟨a0, a1⟩ := hi.a
  obtain ⟨x0, x1⟩ := hi.x
  have hb2 : st.bank = 0 ∨ st.bank = 1 := by have := hi.bank; omega
  obtain ⟨r0, r1⟩ := read_bounds hi hb ((at_ + st.x) % 256)
  have HF : Hid (st.asks 9 at_ = (st.takes 9 (st.read ((at_ + st.x) % 256)), ⟨5, ((at_ + st.x) % 256), st.read ((at_ + st.x) % 256), 0⟩)) := by simp [Hid, St.asks, St.target]
  have c1 := hr.c_a
  have c2 := hr.c_x
  have c3 := hr.c_carry
  have f3 := hr.f_carry
  go_enter Tryz.func67, Tryz.ntmps67
  go_wp2_with fail
  refine (Rread_any (hr.alloc _) hi hb ((at_ + st.x) % 256) (by omega)).mono ?_
  rintro e w1 ⟨rfl, nq, rfl⟩
  go_wp2_with fail
  refine (Rset_any (st := st) ?hrep (st.read ((at_ + st.x) % 256)) (by omega) (by omega)).mono ?_
  case hrep =>
    apply Rep.as
    · (repeat (with_reducible first | apply Rep.alloc | apply Rep.drewN | apply Rep.drew | apply Rep.set_bank | apply Rep.set_s0 | apply Rep.set_s1 | apply Rep.set_cause | apply Rep.set_left | apply Rep.set_down | apply Rep.set_a | apply Rep.set_x | apply Rep.set_pc | apply Rep.set_zero | apply Rep.set_carry | apply Rep.set_op | apply Rep.set_opd | apply Rep.set_phase | apply Rep.set_period | apply Rep.set_count | apply Rep.set_flag | apply Rep.set_age | apply Rep.set_window | apply Rep.set_windowed | apply Rep.set_key | apply Rep.set_out | apply Rep.set_inp | apply Rep.set_opn | apply Rep.set_place | apply Rep.set_rst | (apply Rep.other; case hb => exact hfr _ (by omega)) | exact hr | exact hr1 | exact hr2 | exact hr3))
    · rfl
  rintro e w2 ⟨rfl, hr1, k1⟩
  obtain ⟨hc, hf⟩ := kcell k1 (b := w.heap.size) (by simp) (hfr _ (Nat.le_refl _))
  have k2 : Kept L.own w w2 := by
    refine Kept.trans ?_ k1
    (repeat (with_reducible first | apply Kept.alloc | apply Kept.drewN | apply Kept.drew | apply Kept.rg | apply Kept.p | apply Kept.q | refine Kept.setCell ?_ (Or.inr (Nat.le_refl _)) _ | refine Kept.setCell ?_ (Or.inr (by omega)) _ | exact k1 | exact k2 | exact k3 | exact Kept.refl _ _))
  have hz : w.heap.size < w2.heap.size := by have := k1.size; simp at this; omega
  clear k1 c1 c2 c3 f3
  go_wp2
  rw [HF.out]
  refine bodyPost_ret (v := .agg #[.int .i64 5, .int .i64 ((at_ + st.x) % 256), .int .u8 (st.read ((at_ + st.x) % 256)), .int .u8 0]) (by simp [results, Tryz.results67, go_sem, hc]) rfl ⟨rfl, ?r, ?k⟩
  case r =>
    apply Rep.as
    · (repeat (with_reducible first | apply Rep.alloc | apply Rep.drewN | apply Rep.drew | apply Rep.set_bank | apply Rep.set_s0 | apply Rep.set_s1 | apply Rep.set_cause | apply Rep.set_left | apply Rep.set_down | apply Rep.set_a | apply Rep.set_x | apply Rep.set_pc | apply Rep.set_zero | apply Rep.set_carry | apply Rep.set_op | apply Rep.set_opd | apply Rep.set_phase | apply Rep.set_period | apply Rep.set_count | apply Rep.set_flag | apply Rep.set_age | apply Rep.set_window | apply Rep.set_windowed | apply Rep.set_key | apply Rep.set_out | apply Rep.set_inp | apply Rep.set_opn | apply Rep.set_place | apply Rep.set_rst | (apply Rep.other; case hb => exact hfr _ (by omega)) | exact hr | exact hr1 | exact hr2 | exact hr3))
    · rfl
  case k => (repeat (with_reducible first | apply Kept.alloc | apply Kept.drewN | apply Kept.drew | apply Kept.rg | apply Kept.p | apply Kept.q | refine Kept.setCell ?_ (Or.inr (Nat.le_refl _)) _ | refine Kept.setCell ?_ (Or.inr (by omega)) _ | exact k1 | exact k2 | exact k3 | exact Kept.refl _ _))

theorem Rasks_any {L : Lay} {st : St} {w : World} (hr : Rep L st w) (hi : Inv st) (hb : 0 ≤ st.bank) (op at_ : Int) (h0 : 0 ≤ at_) (h1 : at_ ≤ 255) (o2 : 2 ≤ op) (o3 : op ≤ 10) :
    Calls Tryz.prog 67 #[.pointer (some ⟨L.g, 0, none⟩), .int .i64 op, .int .i64 at_] w fun e w' => e = .returned (.agg #[.int .i64 (st.asks op at_).2.kind, .int .i64 (st.asks op at_).2.addr, .int .u8 (st.asks op at_).2.data, .int .u8 0]) ∧ Rep L (st.asks op at_).1 w' ∧ Kept L.own w w' := by
  have h : op = 2 ∨ op = 3 ∨ op = 4 ∨ op = 5 ∨ op = 6 ∨ op = 7 ∨ op = 8 ∨ op = 9 ∨ op = 10 := by omega
  rcases h with rfl | rfl | rfl | rfl | rfl | rfl | rfl | rfl | rfl
  · exact Rasks_2 hr hi hb at_ h0 h1
  · exact Rasks_3 hr hi hb at_ h0 h1
  · exact Rasks_4 hr hi hb at_ h0 h1
  · exact Rasks_5 hr hi hb at_ h0 h1
  · exact Rasks_6 hr hi hb at_ h0 h1
  · exact Rasks_7 hr hi hb at_ h0 h1
  · exact Rasks_8 hr hi hb at_ h0 h1
  · exact Rasks_9 hr hi hb at_ h0 h1
  · exact Rasks_10 hr hi hb at_ h0 h1

end Go.Proofs.YtommhbidkoeifaaGreat
