/- The document's board: one cycle. -/
import Derived.Test.YtommhbidkoeifaaGreatRef9
namespace Go.Proofs.YtommhbidkoeifaaGreat
open Go.RowKit
set_option linter.unusedVariables false

set_option maxRecDepth 100000 in
set_option maxHeartbeats 1000000 in
theorem Rstep_low_down {L : Lay} {st : St} {w : World} (hr : Rep L st w) (hi : Inv st) (rs : Bool) (v p : Int) (hp0 : 0 ≤ p) (hp1 : p ≤ 255) (hv : v < 2700) :
    Calls Tryz.prog 32 #[.pointer (some ⟨L.g, 0, none⟩), .agg #[.bool rs, .int .i64 v, .int .u8 p]] w fun e w' => e = .returned (.agg #[.int .i64 (st.step ⟨rs, v, p⟩).2.kind, .int .i64 (st.step ⟨rs, v, p⟩).2.addr, .int .u8 (st.step ⟨rs, v, p⟩).2.data, .int .u8 (st.step ⟨rs, v, p⟩).2.out]) ∧ Rep L (st.step ⟨rs, v, p⟩).1 w' ∧ Kept L.own w w' := by
  have hfr := hr.fresh
  obtain ⟨l1, l2, l3⟩ := hr.lt
  have HF : Hid (st.step ⟨rs, v, p⟩ = (({ st with inp := p, down := true } : St).reset 6, ⟨0, 0, 0, 0⟩)) := by simp [Hid, St.step, St.supply, hv]
  have c_inp := hr.c_inp
  have f_inp := hr.f_inp
  have c_down := hr.c_down
  have f_down := hr.f_down
  have c_left := hr.c_left
  have f_left := hr.f_left
  have c_bank := hr.c_bank
  rw [HF.out]
  go_enter Tryz.func32, Tryz.ntmps32
  go_wp2_with fail
  refine (Rreset_any (st := { st with inp := p, down := true }) ?hrep 6 (Or.inl rfl)).mono ?_
  case hrep =>
    apply Rep.as
    · (repeat (with_reducible first | apply Rep.alloc | apply Rep.drewN | apply Rep.drew | apply Rep.set_bank | apply Rep.set_s0 | apply Rep.set_s1 | apply Rep.set_cause | apply Rep.set_left | apply Rep.set_down | apply Rep.set_a | apply Rep.set_x | apply Rep.set_pc | apply Rep.set_zero | apply Rep.set_carry | apply Rep.set_op | apply Rep.set_opd | apply Rep.set_phase | apply Rep.set_period | apply Rep.set_count | apply Rep.set_flag | apply Rep.set_age | apply Rep.set_window | apply Rep.set_windowed | apply Rep.set_key | apply Rep.set_out | apply Rep.set_inp | apply Rep.set_opn | apply Rep.set_place | apply Rep.set_rst | (apply Rep.other; case hb => exact hfr _ (by omega)) | exact hr | exact hr1 | exact hr2 | exact hr3))
    · rfl
  rintro e w1 ⟨rfl, hr1, k1⟩
  obtain ⟨hc, hf⟩ := kcell k1 (b := w.heap.size + 1) (by simp) (hfr _ (by omega))
  have hz : w.heap.size + 1 < w1.heap.size := by have := k1.size; simp at this; omega
  have k2 : Kept L.own w w1 := by
    refine Kept.trans ?_ k1
    (repeat (with_reducible first | apply Kept.alloc | apply Kept.drewN | apply Kept.drew | apply Kept.rg | apply Kept.p | apply Kept.q | refine Kept.setCell ?_ (Or.inr (Nat.le_refl _)) _ | refine Kept.setCell ?_ (Or.inr (by omega)) _ | exact k1 | exact k2 | exact k3 | exact Kept.refl _ _))
  clear k1
  go_wp2
  refine bodyPost_ret (v := .agg #[.int .i64 0, .int .i64 0, .int .u8 0, .int .u8 0]) (by simp [results, Tryz.results32, go_sem, hc]) rfl ⟨rfl, ?r, ?k⟩
  case r =>
    apply Rep.as
    · (repeat (with_reducible first | apply Rep.alloc | apply Rep.drewN | apply Rep.drew | apply Rep.set_bank | apply Rep.set_s0 | apply Rep.set_s1 | apply Rep.set_cause | apply Rep.set_left | apply Rep.set_down | apply Rep.set_a | apply Rep.set_x | apply Rep.set_pc | apply Rep.set_zero | apply Rep.set_carry | apply Rep.set_op | apply Rep.set_opd | apply Rep.set_phase | apply Rep.set_period | apply Rep.set_count | apply Rep.set_flag | apply Rep.set_age | apply Rep.set_window | apply Rep.set_windowed | apply Rep.set_key | apply Rep.set_out | apply Rep.set_inp | apply Rep.set_opn | apply Rep.set_place | apply Rep.set_rst | (apply Rep.other; case hb => exact hfr _ (by omega)) | exact hr | exact hr1 | exact hr2 | exact hr3))
    · rfl
  case k => (repeat (with_reducible first | apply Kept.alloc | apply Kept.drewN | apply Kept.drew | apply Kept.rg | apply Kept.p | apply Kept.q | refine Kept.setCell ?_ (Or.inr (Nat.le_refl _)) _ | refine Kept.setCell ?_ (Or.inr (by omega)) _ | exact k1 | exact k2 | exact k3 | exact Kept.refl _ _))

set_option maxRecDepth 100000 in
set_option maxHeartbeats 1000000 in
theorem Rstep_high_pin {L : Lay} {st : St} {w : World} (hr : Rep L st w) (hi : Inv st) (rs : Bool) (v p : Int) (hp0 : 0 ≤ p) (hp1 : p ≤ 255) (hv : ¬ v < 2700) (hv2 : 3000 ≤ v) (hr0 : rs = true) :
    Calls Tryz.prog 32 #[.pointer (some ⟨L.g, 0, none⟩), .agg #[.bool rs, .int .i64 v, .int .u8 p]] w fun e w' => e = .returned (.agg #[.int .i64 (st.step ⟨rs, v, p⟩).2.kind, .int .i64 (st.step ⟨rs, v, p⟩).2.addr, .int .u8 (st.step ⟨rs, v, p⟩).2.data, .int .u8 (st.step ⟨rs, v, p⟩).2.out]) ∧ Rep L (st.step ⟨rs, v, p⟩).1 w' ∧ Kept L.own w w' := by
  have hfr := hr.fresh
  obtain ⟨l1, l2, l3⟩ := hr.lt
  have HF : Hid (st.step ⟨rs, v, p⟩ = (({ st with inp := p, down := false } : St).reset 5, ⟨0, 0, 0, 0⟩)) := by simp [Hid, St.step, St.supply, hv, hv2, hr0]
  have c_inp := hr.c_inp
  have f_inp := hr.f_inp
  have c_down := hr.c_down
  have f_down := hr.f_down
  have c_left := hr.c_left
  have f_left := hr.f_left
  have c_bank := hr.c_bank
  subst hr0
  rw [HF.out]
  go_enter Tryz.func32, Tryz.ntmps32
  go_wp2_with fail
  refine (Rreset_any (st := { st with inp := p, down := false }) ?hrep 5 (Or.inl rfl)).mono ?_
  case hrep =>
    apply Rep.as
    · (repeat (with_reducible first | apply Rep.alloc | apply Rep.drewN | apply Rep.drew | apply Rep.set_bank | apply Rep.set_s0 | apply Rep.set_s1 | apply Rep.set_cause | apply Rep.set_left | apply Rep.set_down | apply Rep.set_a | apply Rep.set_x | apply Rep.set_pc | apply Rep.set_zero | apply Rep.set_carry | apply Rep.set_op | apply Rep.set_opd | apply Rep.set_phase | apply Rep.set_period | apply Rep.set_count | apply Rep.set_flag | apply Rep.set_age | apply Rep.set_window | apply Rep.set_windowed | apply Rep.set_key | apply Rep.set_out | apply Rep.set_inp | apply Rep.set_opn | apply Rep.set_place | apply Rep.set_rst | (apply Rep.other; case hb => exact hfr _ (by omega)) | exact hr | exact hr1 | exact hr2 | exact hr3))
    · rfl
  rintro e w1 ⟨rfl, hr1, k1⟩
  obtain ⟨hc, hf⟩ := kcell k1 (b := w.heap.size + 1) (by simp) (hfr _ (by omega))
  have hz : w.heap.size + 1 < w1.heap.size := by have := k1.size; simp at this; omega
  have k2 : Kept L.own w w1 := by
    refine Kept.trans ?_ k1
    (repeat (with_reducible first | apply Kept.alloc | apply Kept.drewN | apply Kept.drew | apply Kept.rg | apply Kept.p | apply Kept.q | refine Kept.setCell ?_ (Or.inr (Nat.le_refl _)) _ | refine Kept.setCell ?_ (Or.inr (by omega)) _ | exact k1 | exact k2 | exact k3 | exact Kept.refl _ _))
  clear k1
  go_wp2
  refine bodyPost_ret (v := .agg #[.int .i64 0, .int .i64 0, .int .u8 0, .int .u8 0]) (by simp [results, Tryz.results32, go_sem, hc]) rfl ⟨rfl, ?r, ?k⟩
  case r =>
    apply Rep.as
    · (repeat (with_reducible first | apply Rep.alloc | apply Rep.drewN | apply Rep.drew | apply Rep.set_bank | apply Rep.set_s0 | apply Rep.set_s1 | apply Rep.set_cause | apply Rep.set_left | apply Rep.set_down | apply Rep.set_a | apply Rep.set_x | apply Rep.set_pc | apply Rep.set_zero | apply Rep.set_carry | apply Rep.set_op | apply Rep.set_opd | apply Rep.set_phase | apply Rep.set_period | apply Rep.set_count | apply Rep.set_flag | apply Rep.set_age | apply Rep.set_window | apply Rep.set_windowed | apply Rep.set_key | apply Rep.set_out | apply Rep.set_inp | apply Rep.set_opn | apply Rep.set_place | apply Rep.set_rst | (apply Rep.other; case hb => exact hfr _ (by omega)) | exact hr | exact hr1 | exact hr2 | exact hr3))
    · rfl
  case k => (repeat (with_reducible first | apply Kept.alloc | apply Kept.drewN | apply Kept.drew | apply Kept.rg | apply Kept.p | apply Kept.q | refine Kept.setCell ?_ (Or.inr (Nat.le_refl _)) _ | refine Kept.setCell ?_ (Or.inr (by omega)) _ | exact k1 | exact k2 | exact k3 | exact Kept.refl _ _))

set_option maxRecDepth 100000 in
set_option maxHeartbeats 1000000 in
theorem Rstep_high_more {L : Lay} {st : St} {w : World} (hr : Rep L st w) (hi : Inv st) (rs : Bool) (v p : Int) (hp0 : 0 ≤ p) (hp1 : p ≤ 255) (hv : ¬ v < 2700) (hv2 : 3000 ≤ v) (hr0 : rs = false) (hl : 0 < st.left) (hl1 : ¬ st.left - 1 = 0) :
    Calls Tryz.prog 32 #[.pointer (some ⟨L.g, 0, none⟩), .agg #[.bool rs, .int .i64 v, .int .u8 p]] w fun e w' => e = .returned (.agg #[.int .i64 (st.step ⟨rs, v, p⟩).2.kind, .int .i64 (st.step ⟨rs, v, p⟩).2.addr, .int .u8 (st.step ⟨rs, v, p⟩).2.data, .int .u8 (st.step ⟨rs, v, p⟩).2.out]) ∧ Rep L (st.step ⟨rs, v, p⟩).1 w' ∧ Kept L.own w w' := by
  have hfr := hr.fresh
  obtain ⟨l1, l2, l3⟩ := hr.lt
  have HF : Hid (st.step ⟨rs, v, p⟩ = ({ st with inp := p, down := false, left := st.left - 1 }, ⟨0, 0, 0, 0⟩)) := by simp [Hid, St.step, St.supply, hv, hv2, hr0, hl, hl1]
  have c_inp := hr.c_inp
  have f_inp := hr.f_inp
  have c_down := hr.c_down
  have f_down := hr.f_down
  have c_left := hr.c_left
  have f_left := hr.f_left
  have c_bank := hr.c_bank
  subst hr0
  rw [HF.out]
  have hq := hi.left
  have hl2 : (st.left - 1 == 0) = false := by simpa using hl1
  clear hl1
  go_enter Tryz.func32, Tryz.ntmps32
  go_wp2
  refine bodyPost_ret (v := .agg #[.int .i64 0, .int .i64 0, .int .u8 0, .int .u8 0]) (by simp [results, Tryz.results32, go_sem]) rfl ⟨rfl, ?r, ?k⟩
  case r =>
    apply Rep.as
    · (repeat (with_reducible first | apply Rep.alloc | apply Rep.drewN | apply Rep.drew | apply Rep.set_bank | apply Rep.set_s0 | apply Rep.set_s1 | apply Rep.set_cause | apply Rep.set_left | apply Rep.set_down | apply Rep.set_a | apply Rep.set_x | apply Rep.set_pc | apply Rep.set_zero | apply Rep.set_carry | apply Rep.set_op | apply Rep.set_opd | apply Rep.set_phase | apply Rep.set_period | apply Rep.set_count | apply Rep.set_flag | apply Rep.set_age | apply Rep.set_window | apply Rep.set_windowed | apply Rep.set_key | apply Rep.set_out | apply Rep.set_inp | apply Rep.set_opn | apply Rep.set_place | apply Rep.set_rst | (apply Rep.other; case hb => exact hfr _ (by omega)) | exact hr | exact hr1 | exact hr2 | exact hr3))
    · rfl
  case k => (repeat (with_reducible first | apply Kept.alloc | apply Kept.drewN | apply Kept.drew | apply Kept.rg | apply Kept.p | apply Kept.q | refine Kept.setCell ?_ (Or.inr (Nat.le_refl _)) _ | refine Kept.setCell ?_ (Or.inr (by omega)) _ | exact k1 | exact k2 | exact k3 | exact Kept.refl _ _))

set_option maxRecDepth 100000 in
set_option maxHeartbeats 1000000 in
theorem Rstep_high_boot {L : Lay} {st : St} {w : World} (hr : Rep L st w) (hi : Inv st) (rs : Bool) (v p : Int) (hp0 : 0 ≤ p) (hp1 : p ≤ 255) (hv : ¬ v < 2700) (hv2 : 3000 ≤ v) (hr0 : rs = false) (hl : 0 < st.left) (hl1 : st.left - 1 = 0) :
    Calls Tryz.prog 32 #[.pointer (some ⟨L.g, 0, none⟩), .agg #[.bool rs, .int .i64 v, .int .u8 p]] w fun e w' => e = .returned (.agg #[.int .i64 (st.step ⟨rs, v, p⟩).2.kind, .int .i64 (st.step ⟨rs, v, p⟩).2.addr, .int .u8 (st.step ⟨rs, v, p⟩).2.data, .int .u8 (st.step ⟨rs, v, p⟩).2.out]) ∧ Rep L (st.step ⟨rs, v, p⟩).1 w' ∧ Kept L.own w w' := by
  have hfr := hr.fresh
  obtain ⟨l1, l2, l3⟩ := hr.lt
  have HF : Hid (st.step ⟨rs, v, p⟩ = (({ st with inp := p, down := false, left := st.left - 1 } : St).boot, ⟨0, 0, 0, 0⟩)) := by simp [Hid, St.step, St.supply, hv, hv2, hr0, hl, hl1]
  have c_inp := hr.c_inp
  have f_inp := hr.f_inp
  have c_down := hr.c_down
  have f_down := hr.f_down
  have c_left := hr.c_left
  have f_left := hr.f_left
  have c_bank := hr.c_bank
  subst hr0
  rw [HF.out]
  have hq := hi.left
  have hl2 : (st.left - 1 == 0) = true := by simpa using hl1
  clear hl1
  go_enter Tryz.func32, Tryz.ntmps32
  go_wp2_with fail
  refine (Rboot_any (st := { st with inp := p, down := false, left := st.left - 1 }) ?hrep hi.b0 hi.b1).mono ?_
  case hrep =>
    apply Rep.as
    · (repeat (with_reducible first | apply Rep.alloc | apply Rep.drewN | apply Rep.drew | apply Rep.set_bank | apply Rep.set_s0 | apply Rep.set_s1 | apply Rep.set_cause | apply Rep.set_left | apply Rep.set_down | apply Rep.set_a | apply Rep.set_x | apply Rep.set_pc | apply Rep.set_zero | apply Rep.set_carry | apply Rep.set_op | apply Rep.set_opd | apply Rep.set_phase | apply Rep.set_period | apply Rep.set_count | apply Rep.set_flag | apply Rep.set_age | apply Rep.set_window | apply Rep.set_windowed | apply Rep.set_key | apply Rep.set_out | apply Rep.set_inp | apply Rep.set_opn | apply Rep.set_place | apply Rep.set_rst | (apply Rep.other; case hb => exact hfr _ (by omega)) | exact hr | exact hr1 | exact hr2 | exact hr3))
    · rfl
  rintro e w1 ⟨rfl, hr1, k1⟩
  obtain ⟨hc, hf⟩ := kcell k1 (b := w.heap.size + 1) (by simp) (hfr _ (by omega))
  have hz : w.heap.size + 1 < w1.heap.size := by have := k1.size; simp at this; omega
  have k2 : Kept L.own w w1 := by
    refine Kept.trans ?_ k1
    (repeat (with_reducible first | apply Kept.alloc | apply Kept.drewN | apply Kept.drew | apply Kept.rg | apply Kept.p | apply Kept.q | refine Kept.setCell ?_ (Or.inr (Nat.le_refl _)) _ | refine Kept.setCell ?_ (Or.inr (by omega)) _ | exact k1 | exact k2 | exact k3 | exact Kept.refl _ _))
  clear k1
  go_wp2
  refine bodyPost_ret (v := .agg #[.int .i64 0, .int .i64 0, .int .u8 0, .int .u8 0]) (by simp [results, Tryz.results32, go_sem, hc]) rfl ⟨rfl, ?r, ?k⟩
  case r =>
    apply Rep.as
    · (repeat (with_reducible first | apply Rep.alloc | apply Rep.drewN | apply Rep.drew | apply Rep.set_bank | apply Rep.set_s0 | apply Rep.set_s1 | apply Rep.set_cause | apply Rep.set_left | apply Rep.set_down | apply Rep.set_a | apply Rep.set_x | apply Rep.set_pc | apply Rep.set_zero | apply Rep.set_carry | apply Rep.set_op | apply Rep.set_opd | apply Rep.set_phase | apply Rep.set_period | apply Rep.set_count | apply Rep.set_flag | apply Rep.set_age | apply Rep.set_window | apply Rep.set_windowed | apply Rep.set_key | apply Rep.set_out | apply Rep.set_inp | apply Rep.set_opn | apply Rep.set_place | apply Rep.set_rst | (apply Rep.other; case hb => exact hfr _ (by omega)) | exact hr | exact hr1 | exact hr2 | exact hr3))
    · rfl
  case k => (repeat (with_reducible first | apply Kept.alloc | apply Kept.drewN | apply Kept.drew | apply Kept.rg | apply Kept.p | apply Kept.q | refine Kept.setCell ?_ (Or.inr (Nat.le_refl _)) _ | refine Kept.setCell ?_ (Or.inr (by omega)) _ | exact k1 | exact k2 | exact k3 | exact Kept.refl _ _))

set_option maxRecDepth 100000 in
set_option maxHeartbeats 1000000 in
theorem Rstep_high_dead {L : Lay} {st : St} {w : World} (hr : Rep L st w) (hi : Inv st) (rs : Bool) (v p : Int) (hp0 : 0 ≤ p) (hp1 : p ≤ 255) (hv : ¬ v < 2700) (hv2 : 3000 ≤ v) (hr0 : rs = false) (hl : ¬ 0 < st.left) (hb : st.bank < 0) :
    Calls Tryz.prog 32 #[.pointer (some ⟨L.g, 0, none⟩), .agg #[.bool rs, .int .i64 v, .int .u8 p]] w fun e w' => e = .returned (.agg #[.int .i64 (st.step ⟨rs, v, p⟩).2.kind, .int .i64 (st.step ⟨rs, v, p⟩).2.addr, .int .u8 (st.step ⟨rs, v, p⟩).2.data, .int .u8 (st.step ⟨rs, v, p⟩).2.out]) ∧ Rep L (st.step ⟨rs, v, p⟩).1 w' ∧ Kept L.own w w' := by
  have hfr := hr.fresh
  obtain ⟨l1, l2, l3⟩ := hr.lt
  have HF : Hid (st.step ⟨rs, v, p⟩ = ({ st with inp := p, down := false }, ⟨1, 0, 0, 0⟩)) := by simp [Hid, St.step, St.supply, hv, hv2, hr0, hl, hb]
  have c_inp := hr.c_inp
  have f_inp := hr.f_inp
  have c_down := hr.c_down
  have f_down := hr.f_down
  have c_left := hr.c_left
  have f_left := hr.f_left
  have c_bank := hr.c_bank
  subst hr0
  rw [HF.out]
  go_enter Tryz.func32, Tryz.ntmps32
  go_wp2
  refine bodyPost_ret (v := .agg #[.int .i64 1, .int .i64 0, .int .u8 0, .int .u8 0]) (by simp [results, Tryz.results32, go_sem]) rfl ⟨rfl, ?r, ?k⟩
  case r =>
    apply Rep.as
    · (repeat (with_reducible first | apply Rep.alloc | apply Rep.drewN | apply Rep.drew | apply Rep.set_bank | apply Rep.set_s0 | apply Rep.set_s1 | apply Rep.set_cause | apply Rep.set_left | apply Rep.set_down | apply Rep.set_a | apply Rep.set_x | apply Rep.set_pc | apply Rep.set_zero | apply Rep.set_carry | apply Rep.set_op | apply Rep.set_opd | apply Rep.set_phase | apply Rep.set_period | apply Rep.set_count | apply Rep.set_flag | apply Rep.set_age | apply Rep.set_window | apply Rep.set_windowed | apply Rep.set_key | apply Rep.set_out | apply Rep.set_inp | apply Rep.set_opn | apply Rep.set_place | apply Rep.set_rst | (apply Rep.other; case hb => exact hfr _ (by omega)) | exact hr | exact hr1 | exact hr2 | exact hr3))
    · rfl
  case k => (repeat (with_reducible first | apply Kept.alloc | apply Kept.drewN | apply Kept.drew | apply Kept.rg | apply Kept.p | apply Kept.q | refine Kept.setCell ?_ (Or.inr (Nat.le_refl _)) _ | refine Kept.setCell ?_ (Or.inr (by omega)) _ | exact k1 | exact k2 | exact k3 | exact Kept.refl _ _))

set_option maxRecDepth 100000 in
set_option maxHeartbeats 1000000 in
theorem Rstep_high_runs {L : Lay} {st : St} {w : World} (hr : Rep L st w) (hi : Inv st) (rs : Bool) (v p : Int) (hp0 : 0 ≤ p) (hp1 : p ≤ 255) (hv : ¬ v < 2700) (hv2 : 3000 ≤ v) (hr0 : rs = false) (hl : ¬ 0 < st.left) (hb : ¬ st.bank < 0) :
    Calls Tryz.prog 32 #[.pointer (some ⟨L.g, 0, none⟩), .agg #[.bool rs, .int .i64 v, .int .u8 p]] w fun e w' => e = .returned (.agg #[.int .i64 (st.step ⟨rs, v, p⟩).2.kind, .int .i64 (st.step ⟨rs, v, p⟩).2.addr, .int .u8 (st.step ⟨rs, v, p⟩).2.data, .int .u8 (st.step ⟨rs, v, p⟩).2.out]) ∧ Rep L (st.step ⟨rs, v, p⟩).1 w' ∧ Kept L.own w w' := by
  have hfr := hr.fresh
  obtain ⟨l1, l2, l3⟩ := hr.lt
  have HF : Hid (st.step ⟨rs, v, p⟩ = ({ st with inp := p, down := false } : St).runs) := by simp [Hid, St.step, St.supply, hv, hv2, hr0, hl, hb]
  have c_inp := hr.c_inp
  have f_inp := hr.f_inp
  have c_down := hr.c_down
  have f_down := hr.f_down
  have c_left := hr.c_left
  have f_left := hr.f_left
  have c_bank := hr.c_bank
  subst hr0
  rw [HF.out]
  have hq := hi.left
  have hiB : Inv { st with inp := p, down := false } := { hi with inp := ⟨hp0, hp1⟩ }
  go_enter Tryz.func32, Tryz.ntmps32
  go_wp2_with fail
  refine (Rruns_any (st := { st with inp := p, down := false }) ?hrep hiB (by show 0 ≤ st.bank; omega) (by show st.left = 0; omega)).mono ?_
  case hrep =>
    apply Rep.as
    · (repeat (with_reducible first | apply Rep.alloc | apply Rep.drewN | apply Rep.drew | apply Rep.set_bank | apply Rep.set_s0 | apply Rep.set_s1 | apply Rep.set_cause | apply Rep.set_left | apply Rep.set_down | apply Rep.set_a | apply Rep.set_x | apply Rep.set_pc | apply Rep.set_zero | apply Rep.set_carry | apply Rep.set_op | apply Rep.set_opd | apply Rep.set_phase | apply Rep.set_period | apply Rep.set_count | apply Rep.set_flag | apply Rep.set_age | apply Rep.set_window | apply Rep.set_windowed | apply Rep.set_key | apply Rep.set_out | apply Rep.set_inp | apply Rep.set_opn | apply Rep.set_place | apply Rep.set_rst | (apply Rep.other; case hb => exact hfr _ (by omega)) | exact hr | exact hr1 | exact hr2 | exact hr3))
    · rfl
  rintro e w1 ⟨rfl, hr1, k1⟩
  obtain ⟨hc, hf⟩ := kcell k1 (b := w.heap.size + 1) (by simp) (hfr _ (by omega))
  have hz : w.heap.size + 1 < w1.heap.size := by have := k1.size; simp at this; omega
  have k2 : Kept L.own w w1 := by
    refine Kept.trans ?_ k1
    (repeat (with_reducible first | apply Kept.alloc | apply Kept.drewN | apply Kept.drew | apply Kept.rg | apply Kept.p | apply Kept.q | refine Kept.setCell ?_ (Or.inr (Nat.le_refl _)) _ | refine Kept.setCell ?_ (Or.inr (by omega)) _ | exact k1 | exact k2 | exact k3 | exact Kept.refl _ _))
  clear k1
  go_wp2
  refine bodyPost_ret (v := .agg #[.int .i64 ({ st with inp := p, down := false } : St).runs.2.kind, .int .i64 ({ st with inp := p, down := false } : St).runs.2.addr, .int .u8 ({ st with inp := p, down := false } : St).runs.2.data, .int .u8 ({ st with inp := p, down := false } : St).runs.2.out]) (by simp [results, Tryz.results32, go_sem, hc]) rfl ⟨rfl, ?r, ?k⟩
  case r =>
    apply Rep.as
    · (repeat (with_reducible first | apply Rep.alloc | apply Rep.drewN | apply Rep.drew | apply Rep.set_bank | apply Rep.set_s0 | apply Rep.set_s1 | apply Rep.set_cause | apply Rep.set_left | apply Rep.set_down | apply Rep.set_a | apply Rep.set_x | apply Rep.set_pc | apply Rep.set_zero | apply Rep.set_carry | apply Rep.set_op | apply Rep.set_opd | apply Rep.set_phase | apply Rep.set_period | apply Rep.set_count | apply Rep.set_flag | apply Rep.set_age | apply Rep.set_window | apply Rep.set_windowed | apply Rep.set_key | apply Rep.set_out | apply Rep.set_inp | apply Rep.set_opn | apply Rep.set_place | apply Rep.set_rst | (apply Rep.other; case hb => exact hfr _ (by omega)) | exact hr | exact hr1 | exact hr2 | exact hr3))
    · rfl
  case k => (repeat (with_reducible first | apply Kept.alloc | apply Kept.drewN | apply Kept.drew | apply Kept.rg | apply Kept.p | apply Kept.q | refine Kept.setCell ?_ (Or.inr (Nat.le_refl _)) _ | refine Kept.setCell ?_ (Or.inr (by omega)) _ | exact k1 | exact k2 | exact k3 | exact Kept.refl _ _))

set_option maxRecDepth 100000 in
set_option maxHeartbeats 1000000 in
theorem Rstep_mid_down {L : Lay} {st : St} {w : World} (hr : Rep L st w) (hi : Inv st) (rs : Bool) (v p : Int) (hp0 : 0 ≤ p) (hp1 : p ≤ 255) (hv : ¬ v < 2700) (hv2 : ¬ 3000 ≤ v) (hd : st.down = true) :
    Calls Tryz.prog 32 #[.pointer (some ⟨L.g, 0, none⟩), .agg #[.bool rs, .int .i64 v, .int .u8 p]] w fun e w' => e = .returned (.agg #[.int .i64 (st.step ⟨rs, v, p⟩).2.kind, .int .i64 (st.step ⟨rs, v, p⟩).2.addr, .int .u8 (st.step ⟨rs, v, p⟩).2.data, .int .u8 (st.step ⟨rs, v, p⟩).2.out]) ∧ Rep L (st.step ⟨rs, v, p⟩).1 w' ∧ Kept L.own w w' := by
  have hfr := hr.fresh
  obtain ⟨l1, l2, l3⟩ := hr.lt
  have HF : Hid (st.step ⟨rs, v, p⟩ = (({ st with inp := p } : St).reset 6, ⟨0, 0, 0, 0⟩)) := by simp [Hid, St.step, St.supply, hv, hv2, hd]
  have c_inp := hr.c_inp
  have f_inp := hr.f_inp
  have c_down := hr.c_down
  have f_down := hr.f_down
  have c_left := hr.c_left
  have f_left := hr.f_left
  have c_bank := hr.c_bank
  rw [hd] at c_down
  clear hd
  rw [HF.out]
  go_enter Tryz.func32, Tryz.ntmps32
  go_wp2_with fail
  refine (Rreset_any (st := { st with inp := p }) ?hrep 6 (Or.inl rfl)).mono ?_
  case hrep =>
    apply Rep.as
    · (repeat (with_reducible first | apply Rep.alloc | apply Rep.drewN | apply Rep.drew | apply Rep.set_bank | apply Rep.set_s0 | apply Rep.set_s1 | apply Rep.set_cause | apply Rep.set_left | apply Rep.set_down | apply Rep.set_a | apply Rep.set_x | apply Rep.set_pc | apply Rep.set_zero | apply Rep.set_carry | apply Rep.set_op | apply Rep.set_opd | apply Rep.set_phase | apply Rep.set_period | apply Rep.set_count | apply Rep.set_flag | apply Rep.set_age | apply Rep.set_window | apply Rep.set_windowed | apply Rep.set_key | apply Rep.set_out | apply Rep.set_inp | apply Rep.set_opn | apply Rep.set_place | apply Rep.set_rst | (apply Rep.other; case hb => exact hfr _ (by omega)) | exact hr | exact hr1 | exact hr2 | exact hr3))
    · rfl
  rintro e w1 ⟨rfl, hr1, k1⟩
  obtain ⟨hc, hf⟩ := kcell k1 (b := w.heap.size + 1) (by simp) (hfr _ (by omega))
  have hz : w.heap.size + 1 < w1.heap.size := by have := k1.size; simp at this; omega
  have k2 : Kept L.own w w1 := by
    refine Kept.trans ?_ k1
    (repeat (with_reducible first | apply Kept.alloc | apply Kept.drewN | apply Kept.drew | apply Kept.rg | apply Kept.p | apply Kept.q | refine Kept.setCell ?_ (Or.inr (Nat.le_refl _)) _ | refine Kept.setCell ?_ (Or.inr (by omega)) _ | exact k1 | exact k2 | exact k3 | exact Kept.refl _ _))
  clear k1
  go_wp2
  refine bodyPost_ret (v := .agg #[.int .i64 0, .int .i64 0, .int .u8 0, .int .u8 0]) (by simp [results, Tryz.results32, go_sem, hc]) rfl ⟨rfl, ?r, ?k⟩
  case r =>
    apply Rep.as
    · (repeat (with_reducible first | apply Rep.alloc | apply Rep.drewN | apply Rep.drew | apply Rep.set_bank | apply Rep.set_s0 | apply Rep.set_s1 | apply Rep.set_cause | apply Rep.set_left | apply Rep.set_down | apply Rep.set_a | apply Rep.set_x | apply Rep.set_pc | apply Rep.set_zero | apply Rep.set_carry | apply Rep.set_op | apply Rep.set_opd | apply Rep.set_phase | apply Rep.set_period | apply Rep.set_count | apply Rep.set_flag | apply Rep.set_age | apply Rep.set_window | apply Rep.set_windowed | apply Rep.set_key | apply Rep.set_out | apply Rep.set_inp | apply Rep.set_opn | apply Rep.set_place | apply Rep.set_rst | (apply Rep.other; case hb => exact hfr _ (by omega)) | exact hr | exact hr1 | exact hr2 | exact hr3))
    · rfl
  case k => (repeat (with_reducible first | apply Kept.alloc | apply Kept.drewN | apply Kept.drew | apply Kept.rg | apply Kept.p | apply Kept.q | refine Kept.setCell ?_ (Or.inr (Nat.le_refl _)) _ | refine Kept.setCell ?_ (Or.inr (by omega)) _ | exact k1 | exact k2 | exact k3 | exact Kept.refl _ _))

set_option maxRecDepth 100000 in
set_option maxHeartbeats 1000000 in
theorem Rstep_mid_pin {L : Lay} {st : St} {w : World} (hr : Rep L st w) (hi : Inv st) (rs : Bool) (v p : Int) (hp0 : 0 ≤ p) (hp1 : p ≤ 255) (hv : ¬ v < 2700) (hv2 : ¬ 3000 ≤ v) (hd : st.down = false) (hr0 : rs = true) :
    Calls Tryz.prog 32 #[.pointer (some ⟨L.g, 0, none⟩), .agg #[.bool rs, .int .i64 v, .int .u8 p]] w fun e w' => e = .returned (.agg #[.int .i64 (st.step ⟨rs, v, p⟩).2.kind, .int .i64 (st.step ⟨rs, v, p⟩).2.addr, .int .u8 (st.step ⟨rs, v, p⟩).2.data, .int .u8 (st.step ⟨rs, v, p⟩).2.out]) ∧ Rep L (st.step ⟨rs, v, p⟩).1 w' ∧ Kept L.own w w' := by
  have hfr := hr.fresh
  obtain ⟨l1, l2, l3⟩ := hr.lt
  have HF : Hid (st.step ⟨rs, v, p⟩ = (({ st with inp := p } : St).reset 5, ⟨0, 0, 0, 0⟩)) := by simp [Hid, St.step, St.supply, hv, hv2, hd, hr0]
  have c_inp := hr.c_inp
  have f_inp := hr.f_inp
  have c_down := hr.c_down
  have f_down := hr.f_down
  have c_left := hr.c_left
  have f_left := hr.f_left
  have c_bank := hr.c_bank
  rw [hd] at c_down
  clear hd
  subst hr0
  rw [HF.out]
  go_enter Tryz.func32, Tryz.ntmps32
  go_wp2_with fail
  refine (Rreset_any (st := { st with inp := p }) ?hrep 5 (Or.inl rfl)).mono ?_
  case hrep =>
    apply Rep.as
    · (repeat (with_reducible first | apply Rep.alloc | apply Rep.drewN | apply Rep.drew | apply Rep.set_bank | apply Rep.set_s0 | apply Rep.set_s1 | apply Rep.set_cause | apply Rep.set_left | apply Rep.set_down | apply Rep.set_a | apply Rep.set_x | apply Rep.set_pc | apply Rep.set_zero | apply Rep.set_carry | apply Rep.set_op | apply Rep.set_opd | apply Rep.set_phase | apply Rep.set_period | apply Rep.set_count | apply Rep.set_flag | apply Rep.set_age | apply Rep.set_window | apply Rep.set_windowed | apply Rep.set_key | apply Rep.set_out | apply Rep.set_inp | apply Rep.set_opn | apply Rep.set_place | apply Rep.set_rst | (apply Rep.other; case hb => exact hfr _ (by omega)) | exact hr | exact hr1 | exact hr2 | exact hr3))
    · rfl
  rintro e w1 ⟨rfl, hr1, k1⟩
  obtain ⟨hc, hf⟩ := kcell k1 (b := w.heap.size + 1) (by simp) (hfr _ (by omega))
  have hz : w.heap.size + 1 < w1.heap.size := by have := k1.size; simp at this; omega
  have k2 : Kept L.own w w1 := by
    refine Kept.trans ?_ k1
    (repeat (with_reducible first | apply Kept.alloc | apply Kept.drewN | apply Kept.drew | apply Kept.rg | apply Kept.p | apply Kept.q | refine Kept.setCell ?_ (Or.inr (Nat.le_refl _)) _ | refine Kept.setCell ?_ (Or.inr (by omega)) _ | exact k1 | exact k2 | exact k3 | exact Kept.refl _ _))
  clear k1
  go_wp2
  refine bodyPost_ret (v := .agg #[.int .i64 0, .int .i64 0, .int .u8 0, .int .u8 0]) (by simp [results, Tryz.results32, go_sem, hc]) rfl ⟨rfl, ?r, ?k⟩
  case r =>
    apply Rep.as
    · (repeat (with_reducible first | apply Rep.alloc | apply Rep.drewN | apply Rep.drew | apply Rep.set_bank | apply Rep.set_s0 | apply Rep.set_s1 | apply Rep.set_cause | apply Rep.set_left | apply Rep.set_down | apply Rep.set_a | apply Rep.set_x | apply Rep.set_pc | apply Rep.set_zero | apply Rep.set_carry | apply Rep.set_op | apply Rep.set_opd | apply Rep.set_phase | apply Rep.set_period | apply Rep.set_count | apply Rep.set_flag | apply Rep.set_age | apply Rep.set_window | apply Rep.set_windowed | apply Rep.set_key | apply Rep.set_out | apply Rep.set_inp | apply Rep.set_opn | apply Rep.set_place | apply Rep.set_rst | (apply Rep.other; case hb => exact hfr _ (by omega)) | exact hr | exact hr1 | exact hr2 | exact hr3))
    · rfl
  case k => (repeat (with_reducible first | apply Kept.alloc | apply Kept.drewN | apply Kept.drew | apply Kept.rg | apply Kept.p | apply Kept.q | refine Kept.setCell ?_ (Or.inr (Nat.le_refl _)) _ | refine Kept.setCell ?_ (Or.inr (by omega)) _ | exact k1 | exact k2 | exact k3 | exact Kept.refl _ _))

set_option maxRecDepth 100000 in
set_option maxHeartbeats 1000000 in
theorem Rstep_mid_more {L : Lay} {st : St} {w : World} (hr : Rep L st w) (hi : Inv st) (rs : Bool) (v p : Int) (hp0 : 0 ≤ p) (hp1 : p ≤ 255) (hv : ¬ v < 2700) (hv2 : ¬ 3000 ≤ v) (hd : st.down = false) (hr0 : rs = false) (hl : 0 < st.left) (hl1 : ¬ st.left - 1 = 0) :
    Calls Tryz.prog 32 #[.pointer (some ⟨L.g, 0, none⟩), .agg #[.bool rs, .int .i64 v, .int .u8 p]] w fun e w' => e = .returned (.agg #[.int .i64 (st.step ⟨rs, v, p⟩).2.kind, .int .i64 (st.step ⟨rs, v, p⟩).2.addr, .int .u8 (st.step ⟨rs, v, p⟩).2.data, .int .u8 (st.step ⟨rs, v, p⟩).2.out]) ∧ Rep L (st.step ⟨rs, v, p⟩).1 w' ∧ Kept L.own w w' := by
  have hfr := hr.fresh
  obtain ⟨l1, l2, l3⟩ := hr.lt
  have HF : Hid (st.step ⟨rs, v, p⟩ = ({ st with inp := p, left := st.left - 1 }, ⟨0, 0, 0, 0⟩)) := by simp [Hid, St.step, St.supply, hv, hv2, hd, hr0, hl, hl1]
  have c_inp := hr.c_inp
  have f_inp := hr.f_inp
  have c_down := hr.c_down
  have f_down := hr.f_down
  have c_left := hr.c_left
  have f_left := hr.f_left
  have c_bank := hr.c_bank
  rw [hd] at c_down
  clear hd
  subst hr0
  rw [HF.out]
  have hq := hi.left
  have hl2 : (st.left - 1 == 0) = false := by simpa using hl1
  clear hl1
  go_enter Tryz.func32, Tryz.ntmps32
  go_wp2
  refine bodyPost_ret (v := .agg #[.int .i64 0, .int .i64 0, .int .u8 0, .int .u8 0]) (by simp [results, Tryz.results32, go_sem]) rfl ⟨rfl, ?r, ?k⟩
  case r =>
    apply Rep.as
    · (repeat (with_reducible first | apply Rep.alloc | apply Rep.drewN | apply Rep.drew | apply Rep.set_bank | apply Rep.set_s0 | apply Rep.set_s1 | apply Rep.set_cause | apply Rep.set_left | apply Rep.set_down | apply Rep.set_a | apply Rep.set_x | apply Rep.set_pc | apply Rep.set_zero | apply Rep.set_carry | apply Rep.set_op | apply Rep.set_opd | apply Rep.set_phase | apply Rep.set_period | apply Rep.set_count | apply Rep.set_flag | apply Rep.set_age | apply Rep.set_window | apply Rep.set_windowed | apply Rep.set_key | apply Rep.set_out | apply Rep.set_inp | apply Rep.set_opn | apply Rep.set_place | apply Rep.set_rst | (apply Rep.other; case hb => exact hfr _ (by omega)) | exact hr | exact hr1 | exact hr2 | exact hr3))
    · rfl
  case k => (repeat (with_reducible first | apply Kept.alloc | apply Kept.drewN | apply Kept.drew | apply Kept.rg | apply Kept.p | apply Kept.q | refine Kept.setCell ?_ (Or.inr (Nat.le_refl _)) _ | refine Kept.setCell ?_ (Or.inr (by omega)) _ | exact k1 | exact k2 | exact k3 | exact Kept.refl _ _))

set_option maxRecDepth 100000 in
set_option maxHeartbeats 1000000 in
theorem Rstep_mid_boot {L : Lay} {st : St} {w : World} (hr : Rep L st w) (hi : Inv st) (rs : Bool) (v p : Int) (hp0 : 0 ≤ p) (hp1 : p ≤ 255) (hv : ¬ v < 2700) (hv2 : ¬ 3000 ≤ v) (hd : st.down = false) (hr0 : rs = false) (hl : 0 < st.left) (hl1 : st.left - 1 = 0) :
    Calls Tryz.prog 32 #[.pointer (some ⟨L.g, 0, none⟩), .agg #[.bool rs, .int .i64 v, .int .u8 p]] w fun e w' => e = .returned (.agg #[.int .i64 (st.step ⟨rs, v, p⟩).2.kind, .int .i64 (st.step ⟨rs, v, p⟩).2.addr, .int .u8 (st.step ⟨rs, v, p⟩).2.data, .int .u8 (st.step ⟨rs, v, p⟩).2.out]) ∧ Rep L (st.step ⟨rs, v, p⟩).1 w' ∧ Kept L.own w w' := by
  have hfr := hr.fresh
  obtain ⟨l1, l2, l3⟩ := hr.lt
  have HF : Hid (st.step ⟨rs, v, p⟩ = (({ st with inp := p, left := st.left - 1 } : St).boot, ⟨0, 0, 0, 0⟩)) := by simp [Hid, St.step, St.supply, hv, hv2, hd, hr0, hl, hl1]
  have c_inp := hr.c_inp
  have f_inp := hr.f_inp
  have c_down := hr.c_down
  have f_down := hr.f_down
  have c_left := hr.c_left
  have f_left := hr.f_left
  have c_bank := hr.c_bank
  rw [hd] at c_down
  clear hd
  subst hr0
  rw [HF.out]
  have hq := hi.left
  have hl2 : (st.left - 1 == 0) = true := by simpa using hl1
  clear hl1
  go_enter Tryz.func32, Tryz.ntmps32
  go_wp2_with fail
  refine (Rboot_any (st := { st with inp := p, left := st.left - 1 }) ?hrep hi.b0 hi.b1).mono ?_
  case hrep =>
    apply Rep.as
    · (repeat (with_reducible first | apply Rep.alloc | apply Rep.drewN | apply Rep.drew | apply Rep.set_bank | apply Rep.set_s0 | apply Rep.set_s1 | apply Rep.set_cause | apply Rep.set_left | apply Rep.set_down | apply Rep.set_a | apply Rep.set_x | apply Rep.set_pc | apply Rep.set_zero | apply Rep.set_carry | apply Rep.set_op | apply Rep.set_opd | apply Rep.set_phase | apply Rep.set_period | apply Rep.set_count | apply Rep.set_flag | apply Rep.set_age | apply Rep.set_window | apply Rep.set_windowed | apply Rep.set_key | apply Rep.set_out | apply Rep.set_inp | apply Rep.set_opn | apply Rep.set_place | apply Rep.set_rst | (apply Rep.other; case hb => exact hfr _ (by omega)) | exact hr | exact hr1 | exact hr2 | exact hr3))
    · rfl
  rintro e w1 ⟨rfl, hr1, k1⟩
  obtain ⟨hc, hf⟩ := kcell k1 (b := w.heap.size + 1) (by simp) (hfr _ (by omega))
  have hz : w.heap.size + 1 < w1.heap.size := by have := k1.size; simp at this; omega
  have k2 : Kept L.own w w1 := by
    refine Kept.trans ?_ k1
    (repeat (with_reducible first | apply Kept.alloc | apply Kept.drewN | apply Kept.drew | apply Kept.rg | apply Kept.p | apply Kept.q | refine Kept.setCell ?_ (Or.inr (Nat.le_refl _)) _ | refine Kept.setCell ?_ (Or.inr (by omega)) _ | exact k1 | exact k2 | exact k3 | exact Kept.refl _ _))
  clear k1
  go_wp2
  refine bodyPost_ret (v := .agg #[.int .i64 0, .int .i64 0, .int .u8 0, .int .u8 0]) (by simp [results, Tryz.results32, go_sem, hc]) rfl ⟨rfl, ?r, ?k⟩
  case r =>
    apply Rep.as
    · (repeat (with_reducible first | apply Rep.alloc | apply Rep.drewN | apply Rep.drew | apply Rep.set_bank | apply Rep.set_s0 | apply Rep.set_s1 | apply Rep.set_cause | apply Rep.set_left | apply Rep.set_down | apply Rep.set_a | apply Rep.set_x | apply Rep.set_pc | apply Rep.set_zero | apply Rep.set_carry | apply Rep.set_op | apply Rep.set_opd | apply Rep.set_phase | apply Rep.set_period | apply Rep.set_count | apply Rep.set_flag | apply Rep.set_age | apply Rep.set_window | apply Rep.set_windowed | apply Rep.set_key | apply Rep.set_out | apply Rep.set_inp | apply Rep.set_opn | apply Rep.set_place | apply Rep.set_rst | (apply Rep.other; case hb => exact hfr _ (by omega)) | exact hr | exact hr1 | exact hr2 | exact hr3))
    · rfl
  case k => (repeat (with_reducible first | apply Kept.alloc | apply Kept.drewN | apply Kept.drew | apply Kept.rg | apply Kept.p | apply Kept.q | refine Kept.setCell ?_ (Or.inr (Nat.le_refl _)) _ | refine Kept.setCell ?_ (Or.inr (by omega)) _ | exact k1 | exact k2 | exact k3 | exact Kept.refl _ _))

set_option maxRecDepth 100000 in
set_option maxHeartbeats 1000000 in
theorem Rstep_mid_dead {L : Lay} {st : St} {w : World} (hr : Rep L st w) (hi : Inv st) (rs : Bool) (v p : Int) (hp0 : 0 ≤ p) (hp1 : p ≤ 255) (hv : ¬ v < 2700) (hv2 : ¬ 3000 ≤ v) (hd : st.down = false) (hr0 : rs = false) (hl : ¬ 0 < st.left) (hb : st.bank < 0) :
    Calls Tryz.prog 32 #[.pointer (some ⟨L.g, 0, none⟩), .agg #[.bool rs, .int .i64 v, .int .u8 p]] w fun e w' => e = .returned (.agg #[.int .i64 (st.step ⟨rs, v, p⟩).2.kind, .int .i64 (st.step ⟨rs, v, p⟩).2.addr, .int .u8 (st.step ⟨rs, v, p⟩).2.data, .int .u8 (st.step ⟨rs, v, p⟩).2.out]) ∧ Rep L (st.step ⟨rs, v, p⟩).1 w' ∧ Kept L.own w w' := by
  have hfr := hr.fresh
  obtain ⟨l1, l2, l3⟩ := hr.lt
  have HF : Hid (st.step ⟨rs, v, p⟩ = ({ st with inp := p }, ⟨1, 0, 0, 0⟩)) := by simp [Hid, St.step, St.supply, hv, hv2, hd, hr0, hl, hb]
  have c_inp := hr.c_inp
  have f_inp := hr.f_inp
  have c_down := hr.c_down
  have f_down := hr.f_down
  have c_left := hr.c_left
  have f_left := hr.f_left
  have c_bank := hr.c_bank
  rw [hd] at c_down
  clear hd
  subst hr0
  rw [HF.out]
  go_enter Tryz.func32, Tryz.ntmps32
  go_wp2
  refine bodyPost_ret (v := .agg #[.int .i64 1, .int .i64 0, .int .u8 0, .int .u8 0]) (by simp [results, Tryz.results32, go_sem]) rfl ⟨rfl, ?r, ?k⟩
  case r =>
    apply Rep.as
    · (repeat (with_reducible first | apply Rep.alloc | apply Rep.drewN | apply Rep.drew | apply Rep.set_bank | apply Rep.set_s0 | apply Rep.set_s1 | apply Rep.set_cause | apply Rep.set_left | apply Rep.set_down | apply Rep.set_a | apply Rep.set_x | apply Rep.set_pc | apply Rep.set_zero | apply Rep.set_carry | apply Rep.set_op | apply Rep.set_opd | apply Rep.set_phase | apply Rep.set_period | apply Rep.set_count | apply Rep.set_flag | apply Rep.set_age | apply Rep.set_window | apply Rep.set_windowed | apply Rep.set_key | apply Rep.set_out | apply Rep.set_inp | apply Rep.set_opn | apply Rep.set_place | apply Rep.set_rst | (apply Rep.other; case hb => exact hfr _ (by omega)) | exact hr | exact hr1 | exact hr2 | exact hr3))
    · rfl
  case k => (repeat (with_reducible first | apply Kept.alloc | apply Kept.drewN | apply Kept.drew | apply Kept.rg | apply Kept.p | apply Kept.q | refine Kept.setCell ?_ (Or.inr (Nat.le_refl _)) _ | refine Kept.setCell ?_ (Or.inr (by omega)) _ | exact k1 | exact k2 | exact k3 | exact Kept.refl _ _))

set_option maxRecDepth 100000 in
set_option maxHeartbeats 1000000 in
theorem Rstep_mid_runs {L : Lay} {st : St} {w : World} (hr : Rep L st w) (hi : Inv st) (rs : Bool) (v p : Int) (hp0 : 0 ≤ p) (hp1 : p ≤ 255) (hv : ¬ v < 2700) (hv2 : ¬ 3000 ≤ v) (hd : st.down = false) (hr0 : rs = false) (hl : ¬ 0 < st.left) (hb : ¬ st.bank < 0) :
    Calls Tryz.prog 32 #[.pointer (some ⟨L.g, 0, none⟩), .agg #[.bool rs, .int .i64 v, .int .u8 p]] w fun e w' => e = .returned (.agg #[.int .i64 (st.step ⟨rs, v, p⟩).2.kind, .int .i64 (st.step ⟨rs, v, p⟩).2.addr, .int .u8 (st.step ⟨rs, v, p⟩).2.data, .int .u8 (st.step ⟨rs, v, p⟩).2.out]) ∧ Rep L (st.step ⟨rs, v, p⟩).1 w' ∧ Kept L.own w w' := by
  have hfr := hr.fresh
  obtain ⟨l1, l2, l3⟩ := hr.lt
  have HF : Hid (st.step ⟨rs, v, p⟩ = ({ st with inp := p } : St).runs) := by simp [Hid, St.step, St.supply, hv, hv2, hd, hr0, hl, hb]
  have c_inp := hr.c_inp
  have f_inp := hr.f_inp
  have c_down := hr.c_down
  have f_down := hr.f_down
  have c_left := hr.c_left
  have f_left := hr.f_left
  have c_bank := hr.c_bank
  rw [hd] at c_down
  clear hd
  subst hr0
  rw [HF.out]
  have hq := hi.left
  have hiB : Inv { st with inp := p } := { hi with inp := ⟨hp0, hp1⟩ }
  go_enter Tryz.func32, Tryz.ntmps32
  go_wp2_with fail
  refine (Rruns_any (st := { st with inp := p }) ?hrep hiB (by show 0 ≤ st.bank; omega) (by show st.left = 0; omega)).mono ?_
  case hrep =>
    apply Rep.as
    · (repeat (with_reducible first | apply Rep.alloc | apply Rep.drewN | apply Rep.drew | apply Rep.set_bank | apply Rep.set_s0 | apply Rep.set_s1 | apply Rep.set_cause | apply Rep.set_left | apply Rep.set_down | apply Rep.set_a | apply Rep.set_x | apply Rep.set_pc | apply Rep.set_zero | apply Rep.set_carry | apply Rep.set_op | apply Rep.set_opd | apply Rep.set_phase | apply Rep.set_period | apply Rep.set_count | apply Rep.set_flag | apply Rep.set_age | apply Rep.set_window | apply Rep.set_windowed | apply Rep.set_key | apply Rep.set_out | apply Rep.set_inp | apply Rep.set_opn | apply Rep.set_place | apply Rep.set_rst | (apply Rep.other; case hb => exact hfr _ (by omega)) | exact hr | exact hr1 | exact hr2 | exact hr3))
    · rfl
  rintro e w1 ⟨rfl, hr1, k1⟩
  obtain ⟨hc, hf⟩ := kcell k1 (b := w.heap.size + 1) (by simp) (hfr _ (by omega))
  have hz : w.heap.size + 1 < w1.heap.size := by have := k1.size; simp at this; omega
  have k2 : Kept L.own w w1 := by
    refine Kept.trans ?_ k1
    (repeat (with_reducible first | apply Kept.alloc | apply Kept.drewN | apply Kept.drew | apply Kept.rg | apply Kept.p | apply Kept.q | refine Kept.setCell ?_ (Or.inr (Nat.le_refl _)) _ | refine Kept.setCell ?_ (Or.inr (by omega)) _ | exact k1 | exact k2 | exact k3 | exact Kept.refl _ _))
  clear k1
  go_wp2
  refine bodyPost_ret (v := .agg #[.int .i64 ({ st with inp := p } : St).runs.2.kind, .int .i64 ({ st with inp := p } : St).runs.2.addr, .int .u8 ({ st with inp := p } : St).runs.2.data, .int .u8 ({ st with inp := p } : St).runs.2.out]) (by simp [results, Tryz.results32, go_sem, hc]) rfl ⟨rfl, ?r, ?k⟩
  case r =>
    apply Rep.as
    · (repeat (with_reducible first | apply Rep.alloc | apply Rep.drewN | apply Rep.drew | apply Rep.set_bank | apply Rep.set_s0 | apply Rep.set_s1 | apply Rep.set_cause | apply Rep.set_left | apply Rep.set_down | apply Rep.set_a | apply Rep.set_x | apply Rep.set_pc | apply Rep.set_zero | apply Rep.set_carry | apply Rep.set_op | apply Rep.set_opd | apply Rep.set_phase | apply Rep.set_period | apply Rep.set_count | apply Rep.set_flag | apply Rep.set_age | apply Rep.set_window | apply Rep.set_windowed | apply Rep.set_key | apply Rep.set_out | apply Rep.set_inp | apply Rep.set_opn | apply Rep.set_place | apply Rep.set_rst | (apply Rep.other; case hb => exact hfr _ (by omega)) | exact hr | exact hr1 | exact hr2 | exact hr3))
    · rfl
  case k => (repeat (with_reducible first | apply Kept.alloc | apply Kept.drewN | apply Kept.drew | apply Kept.rg | apply Kept.p | apply Kept.q | refine Kept.setCell ?_ (Or.inr (Nat.le_refl _)) _ | refine Kept.setCell ?_ (Or.inr (by omega)) _ | exact k1 | exact k2 | exact k3 | exact Kept.refl _ _))

theorem Rstep_any {L : Lay} {st : St} {w : World} (hr : Rep L st w) (hi : Inv st) (rs : Bool) (v p : Int) (hp0 : 0 ≤ p) (hp1 : p ≤ 255) :
    Calls Tryz.prog 32 #[.pointer (some ⟨L.g, 0, none⟩), .agg #[.bool rs, .int .i64 v, .int .u8 p]] w fun e w' => e = .returned (.agg #[.int .i64 (st.step ⟨rs, v, p⟩).2.kind, .int .i64 (st.step ⟨rs, v, p⟩).2.addr, .int .u8 (st.step ⟨rs, v, p⟩).2.data, .int .u8 (st.step ⟨rs, v, p⟩).2.out]) ∧ Rep L (st.step ⟨rs, v, p⟩).1 w' ∧ Kept L.own w w' := by
  by_cases hv : v < 2700
  · exact Rstep_low_down hr hi rs v p hp0 hp1 hv
  by_cases hv2 : 3000 ≤ v
  · cases hr0 : rs
    · by_cases hl : 0 < st.left
      · by_cases hl1 : st.left - 1 = 0
        · exact Rstep_high_boot hr hi false v p hp0 hp1 hv hv2 rfl hl hl1
        · exact Rstep_high_more hr hi false v p hp0 hp1 hv hv2 rfl hl hl1
      · by_cases hb : st.bank < 0
        · exact Rstep_high_dead hr hi false v p hp0 hp1 hv hv2 rfl hl hb
        · exact Rstep_high_runs hr hi false v p hp0 hp1 hv hv2 rfl hl hb
    · exact Rstep_high_pin hr hi true v p hp0 hp1 hv hv2 rfl
  · cases hd : st.down
    · cases hr0 : rs
      · by_cases hl : 0 < st.left
        · by_cases hl1 : st.left - 1 = 0
          · exact Rstep_mid_boot hr hi false v p hp0 hp1 hv hv2 hd rfl hl hl1
          · exact Rstep_mid_more hr hi false v p hp0 hp1 hv hv2 hd rfl hl hl1
        · by_cases hb : st.bank < 0
          · exact Rstep_mid_dead hr hi false v p hp0 hp1 hv hv2 hd rfl hl hb
          · exact Rstep_mid_runs hr hi false v p hp0 hp1 hv hv2 hd rfl hl hb
      · exact Rstep_mid_pin hr hi true v p hp0 hp1 hv hv2 hd rfl
    · exact Rstep_mid_down hr hi rs v p hp0 hp1 hv hv2 hd


end Go.Proofs.YtommhbidkoeifaaGreat
