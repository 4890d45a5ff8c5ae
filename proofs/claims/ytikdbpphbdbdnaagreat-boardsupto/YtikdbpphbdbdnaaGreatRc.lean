/- Of several texts, one behind the other. -/
import Derived.Test.YtikdbpphbdbdnaaGreatRb
import Derived.Deep.RegionWith
/- The document's board: the processor's cycle. -/
namespace Go.Proofs.YtikdbpphbdbdnaaGreat
open Go.RowKit
set_option linter.unusedVariables false

set_option maxRecDepth 100000 in
set_option maxHeartbeats 1000000 in
theorem Rworks_idle {L : Lay} {st : St} {w : World} (hr : Rep L st w) (hi : Inv st) (hb : 0 ≤ st.bank) (hp : st.phase = 3) (hf : st.flag = false) :
    Calls Tryz.prog 59 #[.pointer (some ⟨L.g, 0, none⟩)] w fun e w' => e = .returned (.agg #[.int .i64 st.works.2.kind, .int .i64 st.works.2.addr, .int .u8 st.works.2.data, .int .u8 0]) ∧ Rep L st.works.1 w' ∧ Kept L.own w w' := by
  have hfr := hr.fresh
  obtain ⟨l1, l2, l3⟩ := hr.lt
  have hb2 : st.bank = 0 ∨ st.bank = 1 := by have := hi.bank; omega
  have HF : Hid (st.works = (st, ⟨2, 0, 0, 0⟩)) := by simp [Hid, St.works, hp, hf]
  have c1 := hr.c_phase
  rw [hp] at c1
  have c2 := hr.c_flag
  rw [hf] at c2
  clear hp hf
  go_enter Tryz.func59, Tryz.ntmps59
  go_wp2
  rw [HF.out]
  refine bodyPost_ret (v := .agg #[.int .i64 2, .int .i64 0, .int .u8 0, .int .u8 0]) (by simp [results, Tryz.results59, go_sem]) rfl ⟨rfl, ?r, ?k⟩
  case r =>
    apply Rep.as
    · (repeat (with_reducible first | apply Rep.alloc | apply Rep.drewN | apply Rep.drew | apply Rep.set_bank | apply Rep.set_s0 | apply Rep.set_s1 | apply Rep.set_cause | apply Rep.set_left | apply Rep.set_down | apply Rep.set_a | apply Rep.set_x | apply Rep.set_pc | apply Rep.set_zero | apply Rep.set_carry | apply Rep.set_op | apply Rep.set_opd | apply Rep.set_phase | apply Rep.set_period | apply Rep.set_count | apply Rep.set_flag | apply Rep.set_age | apply Rep.set_window | apply Rep.set_windowed | apply Rep.set_key | apply Rep.set_out | apply Rep.set_inp | apply Rep.set_opn | apply Rep.set_place | apply Rep.set_rst | (apply Rep.other; case hb => exact hfr _ (by omega)) | exact hr | exact hr1 | exact hr2 | exact hr3))
    · rfl
  case k => (repeat (with_reducible first | apply Kept.alloc | apply Kept.drewN | apply Kept.drew | apply Kept.rg | apply Kept.p | apply Kept.q | refine Kept.setCell ?_ (Or.inr (Nat.le_refl _)) _ | refine Kept.setCell ?_ (Or.inr (by omega)) _ | exact k1 | exact k2 | exact k3 | exact Kept.refl _ _))

set_option maxRecDepth 100000 in
set_option maxHeartbeats 1000000 in
theorem Rworks_asks {L : Lay} {st : St} {w : World} (hr : Rep L st w) (hi : Inv st) (hb : 0 ≤ st.bank) (hp : st.phase = 2) (o2 : 2 ≤ st.op) (o3 : st.op ≤ 10) :
    Calls Tryz.prog 59 #[.pointer (some ⟨L.g, 0, none⟩)] w fun e w' => e = .returned (.agg #[.int .i64 st.works.2.kind, .int .i64 st.works.2.addr, .int .u8 st.works.2.data, .int .u8 0]) ∧ Rep L st.works.1 w' ∧ Kept L.own w w' := by
  have hfr := hr.fresh
  obtain ⟨l1, l2, l3⟩ := hr.lt
  have hb2 : st.bank = 0 ∨ st.bank = 1 := by have := hi.bank; omega
  have HF : Hid (st.works = ({ st with phase := 0 }).asks st.op st.opd) := by simp [Hid, St.works, hp]
  obtain ⟨d0, d1⟩ := hi.opd
  have c1 := hr.c_phase
  have f1 := hr.f_phase
  rw [hp] at c1
  have c2 := hr.c_op
  have c3 := hr.c_opd
  have hi0 : Inv { st with phase := 0 } := { hi with phase := (by decide : (0 : Int) ≤ 0 ∧ (0 : Int) ≤ 3), ph2 := fun h => absurd h (by decide : ¬ (0 : Int) = 2) }
  clear hp
  have hrep : Rep L { st with phase := 0 } (((w.setCell ⟨L.g, 143, none⟩ (.int .i64 0)).alloc (.cells #[.int .i64 0, .int .i64 0, .int .u8 0, .int .u8 0] 54)).drew) := ((hr.set_phase 0).alloc _).drew
  have kpre : Kept L.own w (((w.setCell ⟨L.g, 143, none⟩ (.int .i64 0)).alloc (.cells #[.int .i64 0, .int .i64 0, .int .u8 0, .int .u8 0] 54)).drew) := (((Kept.refl _ w).rg _ _).alloc _).drew
  have hcall := Rasks_any hrep hi0 hb _ _ d0 d1 o2 o3
  generalize ({ st with phase := 0 } : St).asks st.op st.opd = A at hcall HF
  have HC := show Hid _ from hcall
  clear hcall hi0 hrep hr hi
  go_enter Tryz.func59, Tryz.ntmps59
  go_wp2
  go_region_with (go_at_call 72; refine Calls.mono HC.out ?_; rintro e w1 ⟨rfl, hr1, k1⟩; obtain ⟨hc, hf⟩ := kcell k1 (b := w.heap.size) (by simp) (hfr _ (Nat.le_refl _)); have hz : w.heap.size < w1.heap.size := by have := k1.size; simp at this; omega)
  all_goals
    go_wp2
    rw [HF.out]
    have k2 := kpre.trans k1
    clear k1
    refine bodyPost_ret (v := .agg #[.int .i64 A.2.kind, .int .i64 A.2.addr, .int .u8 A.2.data, .int .u8 0]) (by simp [results, Tryz.results59, go_sem, hc]) rfl ⟨rfl, ?r, ?k⟩
    case r =>
      apply Rep.as
      · (repeat (with_reducible first | apply Rep.alloc | apply Rep.drewN | apply Rep.drew | apply Rep.set_bank | apply Rep.set_s0 | apply Rep.set_s1 | apply Rep.set_cause | apply Rep.set_left | apply Rep.set_down | apply Rep.set_a | apply Rep.set_x | apply Rep.set_pc | apply Rep.set_zero | apply Rep.set_carry | apply Rep.set_op | apply Rep.set_opd | apply Rep.set_phase | apply Rep.set_period | apply Rep.set_count | apply Rep.set_flag | apply Rep.set_age | apply Rep.set_window | apply Rep.set_windowed | apply Rep.set_key | apply Rep.set_out | apply Rep.set_inp | apply Rep.set_opn | apply Rep.set_place | apply Rep.set_rst | (apply Rep.other; case hb => exact hfr _ (by omega)) | exact hr | exact hr1 | exact hr2 | exact hr3))
      · rfl
    case k => (repeat (with_reducible first | apply Kept.alloc | apply Kept.drewN | apply Kept.drew | apply Kept.rg | apply Kept.p | apply Kept.q | refine Kept.setCell ?_ (Or.inr (Nat.le_refl _)) _ | refine Kept.setCell ?_ (Or.inr (by omega)) _ | exact k1 | exact k2 | exact k3 | exact Kept.refl _ _))

set_option maxRecDepth 100000 in
set_option maxHeartbeats 1000000 in
theorem Rworks_operand3 {L : Lay} {st : St} {w : World} (hr : Rep L st w) (hi : Inv st) (hb : 0 ≤ st.bank) (hp : st.phase = 1) (hl : opLen st.op = 3) :
    Calls Tryz.prog 59 #[.pointer (some ⟨L.g, 0, none⟩)] w fun e w' => e = .returned (.agg #[.int .i64 st.works.2.kind, .int .i64 st.works.2.addr, .int .u8 st.works.2.data, .int .u8 0]) ∧ Rep L st.works.1 w' ∧ Kept L.own w w' := by
  have hfr := hr.fresh
  obtain ⟨l1, l2, l3⟩ := hr.lt
  have hb2 : st.bank = 0 ∨ st.bank = 1 := by have := hi.bank; omega
  have HF : Hid (st.works = ({ (st.next 4).1 with phase := 2, opd := st.read st.pc }, ⟨4, st.pc, st.read st.pc, 0⟩)) := by simp [Hid, St.works, hp, hl, St.next]
  obtain ⟨o0, o1⟩ := hi.op
  obtain ⟨r0, r1⟩ := read_bounds hi hb st.pc
  have HL : Hid (opLen st.op = 3) := hl
  have c1 := hr.c_phase
  rw [hp] at c1
  clear hp hl
  go_enter Tryz.func59, Tryz.ntmps59
  go_wp2_with fail
  refine (Rnext_any (hr.alloc _) hi hb 4).mono ?_
  rintro e w1 ⟨rfl, hr1, k1⟩
  obtain ⟨hc, hf⟩ := kcell k1 (b := w.heap.size) (by simp) (hfr _ (Nat.le_refl _))
  have hz : w.heap.size < w1.heap.size := by have := k1.size; simp at this; omega
  have k2 := ((Kept.refl L.own w).alloc _).trans k1
  have d1 := hr1.c_phase
  have e1 := hr1.f_phase
  have d2 := hr1.c_op
  have d3 := hr1.c_opd
  have e3 := hr1.f_opd
  have g1 := hr1.lt.1
  replace d1 : w1.cell? ⟨L.g, 143, none⟩ = some (.int .i64 st.phase) := d1
  replace d2 : w1.cell? ⟨L.g, 141, none⟩ = some (.int .i64 st.op) := d2
  replace d3 : w1.cell? ⟨L.g, 142, none⟩ = some (.int .i64 st.opd) := d3
  have hfr1 := hr1.fresh
  clear c1
  go_wp2_with fail
  refine (rLength_any st.op _ o0).mono ?_
  rintro e w2 ⟨rfl, rfl⟩
  rw [HL.out]
  go_wp2
  rw [HF.out]
  refine bodyPost_ret (v := .agg #[.int .i64 4, .int .i64 st.pc, .int .u8 (st.read st.pc), .int .u8 0]) (by simp [results, Tryz.results59, go_sem, hc, hz]) rfl ⟨rfl, ?r, ?k⟩
  case r =>
    apply Rep.as
    · (repeat (with_reducible first | apply Rep.alloc | apply Rep.drewN | apply Rep.drew | apply Rep.set_bank | apply Rep.set_s0 | apply Rep.set_s1 | apply Rep.set_cause | apply Rep.set_left | apply Rep.set_down | apply Rep.set_a | apply Rep.set_x | apply Rep.set_pc | apply Rep.set_zero | apply Rep.set_carry | apply Rep.set_op | apply Rep.set_opd | apply Rep.set_phase | apply Rep.set_period | apply Rep.set_count | apply Rep.set_flag | apply Rep.set_age | apply Rep.set_window | apply Rep.set_windowed | apply Rep.set_key | apply Rep.set_out | apply Rep.set_inp | apply Rep.set_opn | apply Rep.set_place | apply Rep.set_rst | (apply Rep.other; case hb => exact hfr _ (by omega)) | exact hr | exact hr1 | exact hr2 | exact hr3))
    · rfl
  case k => (repeat (with_reducible first | apply Kept.alloc | apply Kept.drewN | apply Kept.drew | apply Kept.rg | apply Kept.p | apply Kept.q | refine Kept.setCell ?_ (Or.inr (Nat.le_refl _)) _ | refine Kept.setCell ?_ (Or.inr (by omega)) _ | exact k1 | exact k2 | exact k3 | exact Kept.refl _ _))

set_option maxRecDepth 100000 in
set_option maxHeartbeats 1000000 in
theorem Rworks_operand2 {L : Lay} {st : St} {w : World} (hr : Rep L st w) (hi : Inv st) (hb : 0 ≤ st.bank) (hp : st.phase = 1) (hl : ¬ opLen st.op = 3) :
    Calls Tryz.prog 59 #[.pointer (some ⟨L.g, 0, none⟩)] w fun e w' => e = .returned (.agg #[.int .i64 st.works.2.kind, .int .i64 st.works.2.addr, .int .u8 st.works.2.data, .int .u8 0]) ∧ Rep L st.works.1 w' ∧ Kept L.own w w' := by
  have hfr := hr.fresh
  obtain ⟨l1, l2, l3⟩ := hr.lt
  have hb2 : st.bank = 0 ∨ st.bank = 1 := by have := hi.bank; omega
  have HF : Hid (st.works = (({ (st.next 4).1 with phase := 0 }).jumps st.op (st.read st.pc), ⟨4, st.pc, st.read st.pc, 0⟩)) := by simp [Hid, St.works, hp, hl, St.next]
  obtain ⟨o0, o1⟩ := hi.op
  obtain ⟨r0, r1⟩ := read_bounds hi hb st.pc
  have HL : (opLen st.op == 3) = false := by simpa using hl
  have c1 := hr.c_phase
  rw [hp] at c1
  clear hp hl
  go_enter Tryz.func59, Tryz.ntmps59
  go_wp2_with fail
  refine (Rnext_any (hr.alloc _) hi hb 4).mono ?_
  rintro e w1 ⟨rfl, hr1, k1⟩
  obtain ⟨hc, hf⟩ := kcell k1 (b := w.heap.size) (by simp) (hfr _ (Nat.le_refl _))
  have hz : w.heap.size < w1.heap.size := by have := k1.size; simp at this; omega
  have k2 := ((Kept.refl L.own w).alloc _).trans k1
  have d1 := hr1.c_phase
  have e1 := hr1.f_phase
  have d2 := hr1.c_op
  have g1 := hr1.lt.1
  replace d1 : w1.cell? ⟨L.g, 143, none⟩ = some (.int .i64 st.phase) := d1
  replace d2 : w1.cell? ⟨L.g, 141, none⟩ = some (.int .i64 st.op) := d2
  have hfr1 := hr1.fresh
  clear c1
  go_wp2_with fail
  refine (rLength_any st.op _ o0).mono ?_
  rintro e w2 ⟨rfl, rfl⟩
  go_wp2_with fail
  refine (Rjumps_any (st := { (st.next 4).1 with phase := 0 }) ?hrep st.op (st.read st.pc) r0 r1).mono ?_
  case hrep =>
    apply Rep.as
    · (repeat (with_reducible first | apply Rep.alloc | apply Rep.drewN | apply Rep.drew | apply Rep.set_bank | apply Rep.set_s0 | apply Rep.set_s1 | apply Rep.set_cause | apply Rep.set_left | apply Rep.set_down | apply Rep.set_a | apply Rep.set_x | apply Rep.set_pc | apply Rep.set_zero | apply Rep.set_carry | apply Rep.set_op | apply Rep.set_opd | apply Rep.set_phase | apply Rep.set_period | apply Rep.set_count | apply Rep.set_flag | apply Rep.set_age | apply Rep.set_window | apply Rep.set_windowed | apply Rep.set_key | apply Rep.set_out | apply Rep.set_inp | apply Rep.set_opn | apply Rep.set_place | apply Rep.set_rst | (apply Rep.other; case hb => exact hfr _ (by omega)) | exact hr | exact hr1 | exact hr2 | exact hr3))
    · rfl
  rintro e w3 ⟨rfl, hr2, k4⟩
  have kR := ((k1.rg _ _).alloc _).trans k4
  obtain ⟨hc2, hf2⟩ := kcell kR (b := w.heap.size) (by simp) (hfr _ (Nat.le_refl _))
  obtain ⟨hc3, hf3⟩ := kcell k4 (b := w1.heap.size) (by simp) (hfr1 _ (Nat.le_refl _))
  have hz2 : w.heap.size < w3.heap.size := by have := k4.size; simp at this; omega
  have k3 : Kept L.own w w3 := by
    refine Kept.trans ?_ k4
    (repeat (with_reducible first | apply Kept.alloc | apply Kept.drewN | apply Kept.drew | apply Kept.rg | apply Kept.p | apply Kept.q | refine Kept.setCell ?_ (Or.inr (Nat.le_refl _)) _ | refine Kept.setCell ?_ (Or.inr (by omega)) _ | exact k1 | exact k2 | exact k3 | exact Kept.refl _ _))
  clear k4 d1 d2 e1
  go_wp2
  rw [HF.out]
  refine bodyPost_ret (v := .agg #[.int .i64 4, .int .i64 st.pc, .int .u8 (st.read st.pc), .int .u8 0]) (by simp [results, Tryz.results59, go_sem, hc2]) rfl ⟨rfl, ?r, ?k⟩
  case r =>
    apply Rep.as
    · (repeat (with_reducible first | apply Rep.alloc | apply Rep.drewN | apply Rep.drew | apply Rep.set_bank | apply Rep.set_s0 | apply Rep.set_s1 | apply Rep.set_cause | apply Rep.set_left | apply Rep.set_down | apply Rep.set_a | apply Rep.set_x | apply Rep.set_pc | apply Rep.set_zero | apply Rep.set_carry | apply Rep.set_op | apply Rep.set_opd | apply Rep.set_phase | apply Rep.set_period | apply Rep.set_count | apply Rep.set_flag | apply Rep.set_age | apply Rep.set_window | apply Rep.set_windowed | apply Rep.set_key | apply Rep.set_out | apply Rep.set_inp | apply Rep.set_opn | apply Rep.set_place | apply Rep.set_rst | (apply Rep.other; case hb => exact hfr _ (by omega)) | exact hr | exact hr1 | exact hr2 | exact hr3))
    · rfl
  case k => (repeat (with_reducible first | apply Kept.alloc | apply Kept.drewN | apply Kept.drew | apply Kept.rg | apply Kept.p | apply Kept.q | refine Kept.setCell ?_ (Or.inr (Nat.le_refl _)) _ | refine Kept.setCell ?_ (Or.inr (by omega)) _ | exact k1 | exact k2 | exact k3 | exact Kept.refl _ _))

set_option maxRecDepth 100000 in
set_option maxHeartbeats 1000000 in
theorem Rworks_trap0 {L : Lay} {st : St} {w : World} (hr : Rep L st w) (hi : Inv st) (hb : 0 ≤ st.bank) (hp : st.phase = 0) (hl : opLen (st.read st.pc) = 0) :
    Calls Tryz.prog 59 #[.pointer (some ⟨L.g, 0, none⟩)] w fun e w' => e = .returned (.agg #[.int .i64 st.works.2.kind, .int .i64 st.works.2.addr, .int .u8 st.works.2.data, .int .u8 0]) ∧ Rep L st.works.1 w' ∧ Kept L.own w w' := by
  have hfr := hr.fresh
  obtain ⟨l1, l2, l3⟩ := hr.lt
  have hb2 : st.bank = 0 ∨ st.bank = 1 := by have := hi.bank; omega
  have HF : Hid (st.works = (({ st with phase := 0, pc := (st.pc + 1) % 256, op := st.read st.pc } : St).reset 4, ⟨3, st.pc, st.read st.pc, 0⟩)) := by simp [Hid, St.works, hp, hl, St.next]
  have HL : Hid (opLen (st.read st.pc) = opLen (st.read st.pc)) := rfl
  obtain ⟨r0, r1⟩ := read_bounds hi hb st.pc
  have c1 := hr.c_phase
  have f1 := hr.f_phase
  have c2 := hr.c_flag
  rw [hp] at c1
  have hi0 : Inv { st with phase := 0 } := { hi with phase := (by decide : (0 : Int) ≤ 0 ∧ (0 : Int) ≤ 3), ph2 := fun h => absurd h (by decide : ¬ (0 : Int) = 2) }
  clear hp
  have HN : Hid (opLen (st.read st.pc) = 0) := hl
  clear hl
  go_enter Tryz.func59, Tryz.ntmps59
  go_wp2_with fail
  refine (Rnext_any (st := { st with phase := 0 }) ?hrep hi0 hb 3).mono ?_
  case hrep =>
    apply Rep.as
    · (repeat (with_reducible first | apply Rep.alloc | apply Rep.drewN | apply Rep.drew | apply Rep.set_bank | apply Rep.set_s0 | apply Rep.set_s1 | apply Rep.set_cause | apply Rep.set_left | apply Rep.set_down | apply Rep.set_a | apply Rep.set_x | apply Rep.set_pc | apply Rep.set_zero | apply Rep.set_carry | apply Rep.set_op | apply Rep.set_opd | apply Rep.set_phase | apply Rep.set_period | apply Rep.set_count | apply Rep.set_flag | apply Rep.set_age | apply Rep.set_window | apply Rep.set_windowed | apply Rep.set_key | apply Rep.set_out | apply Rep.set_inp | apply Rep.set_opn | apply Rep.set_place | apply Rep.set_rst | (apply Rep.other; case hb => exact hfr _ (by omega)) | exact hr | exact hr1 | exact hr2 | exact hr3))
    · rfl
  rintro e w1 ⟨rfl, hr1, k1⟩
  replace hr1 : Rep L { st with phase := 0, pc := (st.pc + 1) % 256 } w1 := hr1
  rw [show ({ st with phase := 0 } : St).read ({ st with phase := 0 } : St).pc = st.read st.pc from rfl]
  rw [show ({ st with phase := 0 } : St).pc = st.pc from rfl]
  obtain ⟨hc, hf⟩ := kcell k1 (b := w.heap.size) (by simp) (hfr _ (Nat.le_refl _))
  have hz : w.heap.size < w1.heap.size := by have := k1.size; simp at this; omega
  have k2 : Kept L.own w w1 := by
    refine Kept.trans ?_ k1
    (repeat (with_reducible first | apply Kept.alloc | apply Kept.drewN | apply Kept.drew | apply Kept.rg | apply Kept.p | apply Kept.q | refine Kept.setCell ?_ (Or.inr (Nat.le_refl _)) _ | refine Kept.setCell ?_ (Or.inr (by omega)) _ | exact k1 | exact k2 | exact k3 | exact Kept.refl _ _))
  have d1 := hr1.c_op
  have e1 := hr1.f_op
  replace d1 : w1.cell? ⟨L.g, 141, none⟩ = some (.int .i64 st.op) := d1
  have g1 := hr1.lt.1
  have hfr1 := hr1.fresh
  clear c1 c2 f1
  go_wp2_with fail
  refine (rLength_any (st.read st.pc) _ r0).mono ?_
  rintro e w2 ⟨rfl, rfl⟩
  rw [HN.out]
  go_wp2_with fail
  refine (Rreset_any (st := { st with phase := 0, pc := (st.pc + 1) % 256, op := st.read st.pc }) ?hrep 4 (Or.inr hb2)).mono ?_
  case hrep =>
    apply Rep.as
    · (repeat (with_reducible first | apply Rep.alloc | apply Rep.drewN | apply Rep.drew | apply Rep.set_bank | apply Rep.set_s0 | apply Rep.set_s1 | apply Rep.set_cause | apply Rep.set_left | apply Rep.set_down | apply Rep.set_a | apply Rep.set_x | apply Rep.set_pc | apply Rep.set_zero | apply Rep.set_carry | apply Rep.set_op | apply Rep.set_opd | apply Rep.set_phase | apply Rep.set_period | apply Rep.set_count | apply Rep.set_flag | apply Rep.set_age | apply Rep.set_window | apply Rep.set_windowed | apply Rep.set_key | apply Rep.set_out | apply Rep.set_inp | apply Rep.set_opn | apply Rep.set_place | apply Rep.set_rst | (apply Rep.other; case hb => exact hfr _ (by omega)) | exact hr | exact hr1 | exact hr2 | exact hr3))
    · rfl
  rintro e w3 ⟨rfl, hr2, k4⟩
  have kR := ((k1.rg _ _).alloc _).trans k4
  obtain ⟨hc2, hf2⟩ := kcell kR (b := w.heap.size) (by simp) (hfr _ (Nat.le_refl _))
  obtain ⟨hc3, hf3⟩ := kcell k4 (b := w1.heap.size) (by simp) (hfr1 _ (Nat.le_refl _))
  have hz2 : w.heap.size < w3.heap.size := by have := k4.size; simp at this; omega
  have k3 : Kept L.own w w3 := by
    refine Kept.trans ?_ k4
    (repeat (with_reducible first | apply Kept.alloc | apply Kept.drewN | apply Kept.drew | apply Kept.rg | apply Kept.p | apply Kept.q | refine Kept.setCell ?_ (Or.inr (Nat.le_refl _)) _ | refine Kept.setCell ?_ (Or.inr (by omega)) _ | exact k1 | exact k2 | exact k3 | exact Kept.refl _ _))
  clear k4 d1 e1
  go_wp2
  rw [HF.out]
  refine bodyPost_ret (v := .agg #[.int .i64 3, .int .i64 st.pc, .int .u8 (st.read st.pc), .int .u8 0]) (by simp [results, Tryz.results59, go_sem, hc2]) rfl ⟨rfl, ?r, ?k⟩
  case r =>
    apply Rep.as
    · (repeat (with_reducible first | apply Rep.alloc | apply Rep.drewN | apply Rep.drew | apply Rep.set_bank | apply Rep.set_s0 | apply Rep.set_s1 | apply Rep.set_cause | apply Rep.set_left | apply Rep.set_down | apply Rep.set_a | apply Rep.set_x | apply Rep.set_pc | apply Rep.set_zero | apply Rep.set_carry | apply Rep.set_op | apply Rep.set_opd | apply Rep.set_phase | apply Rep.set_period | apply Rep.set_count | apply Rep.set_flag | apply Rep.set_age | apply Rep.set_window | apply Rep.set_windowed | apply Rep.set_key | apply Rep.set_out | apply Rep.set_inp | apply Rep.set_opn | apply Rep.set_place | apply Rep.set_rst | (apply Rep.other; case hb => exact hfr _ (by omega)) | exact hr | exact hr1 | exact hr2 | exact hr3))
    · rfl
  case k => (repeat (with_reducible first | apply Kept.alloc | apply Kept.drewN | apply Kept.drew | apply Kept.rg | apply Kept.p | apply Kept.q | refine Kept.setCell ?_ (Or.inr (Nat.le_refl _)) _ | refine Kept.setCell ?_ (Or.inr (by omega)) _ | exact k1 | exact k2 | exact k3 | exact Kept.refl _ _))

set_option maxRecDepth 100000 in
set_option maxHeartbeats 1000000 in
theorem Rworks_alone0 {L : Lay} {st : St} {w : World} (hr : Rep L st w) (hi : Inv st) (hb : 0 ≤ st.bank) (hp : st.phase = 0) (hl : opLen (st.read st.pc) = 1) :
    Calls Tryz.prog 59 #[.pointer (some ⟨L.g, 0, none⟩)] w fun e w' => e = .returned (.agg #[.int .i64 st.works.2.kind, .int .i64 st.works.2.addr, .int .u8 st.works.2.data, .int .u8 0]) ∧ Rep L st.works.1 w' ∧ Kept L.own w w' := by
  have hfr := hr.fresh
  obtain ⟨l1, l2, l3⟩ := hr.lt
  have hb2 : st.bank = 0 ∨ st.bank = 1 := by have := hi.bank; omega
  have HF : Hid (st.works = (({ st with phase := 0, pc := (st.pc + 1) % 256, op := st.read st.pc } : St).alone (st.read st.pc), ⟨3, st.pc, st.read st.pc, 0⟩)) := by simp [Hid, St.works, hp, hl, St.next]
  have HL : Hid (opLen (st.read st.pc) = opLen (st.read st.pc)) := rfl
  obtain ⟨r0, r1⟩ := read_bounds hi hb st.pc
  have c1 := hr.c_phase
  have f1 := hr.f_phase
  have c2 := hr.c_flag
  rw [hp] at c1
  have hi0 : Inv { st with phase := 0 } := { hi with phase := (by decide : (0 : Int) ≤ 0 ∧ (0 : Int) ≤ 3), ph2 := fun h => absurd h (by decide : ¬ (0 : Int) = 2) }
  clear hp
  have HN : Hid (opLen (st.read st.pc) = 1) := hl
  have hiB : Inv { st with phase := 0, pc := (st.pc + 1) % 256, op := st.read st.pc } := { hi0 with pc := (by constructor <;> omega : 0 ≤ (st.pc + 1) % 256 ∧ (st.pc + 1) % 256 ≤ 255), op := ⟨r0, r1⟩, ph2 := fun h => absurd h (by decide : ¬ (0 : Int) = 2) }
  clear hl
  go_enter Tryz.func59, Tryz.ntmps59
  go_wp2_with fail
  refine (Rnext_any (st := { st with phase := 0 }) ?hrep hi0 hb 3).mono ?_
  case hrep =>
    apply Rep.as
    · (repeat (with_reducible first | apply Rep.alloc | apply Rep.drewN | apply Rep.drew | apply Rep.set_bank | apply Rep.set_s0 | apply Rep.set_s1 | apply Rep.set_cause | apply Rep.set_left | apply Rep.set_down | apply Rep.set_a | apply Rep.set_x | apply Rep.set_pc | apply Rep.set_zero | apply Rep.set_carry | apply Rep.set_op | apply Rep.set_opd | apply Rep.set_phase | apply Rep.set_period | apply Rep.set_count | apply Rep.set_flag | apply Rep.set_age | apply Rep.set_window | apply Rep.set_windowed | apply Rep.set_key | apply Rep.set_out | apply Rep.set_inp | apply Rep.set_opn | apply Rep.set_place | apply Rep.set_rst | (apply Rep.other; case hb => exact hfr _ (by omega)) | exact hr | exact hr1 | exact hr2 | exact hr3))
    · rfl
  rintro e w1 ⟨rfl, hr1, k1⟩
  replace hr1 : Rep L { st with phase := 0, pc := (st.pc + 1) % 256 } w1 := hr1
  rw [show ({ st with phase := 0 } : St).read ({ st with phase := 0 } : St).pc = st.read st.pc from rfl]
  rw [show ({ st with phase := 0 } : St).pc = st.pc from rfl]
  obtain ⟨hc, hf⟩ := kcell k1 (b := w.heap.size) (by simp) (hfr _ (Nat.le_refl _))
  have hz : w.heap.size < w1.heap.size := by have := k1.size; simp at this; omega
  have k2 : Kept L.own w w1 := by
    refine Kept.trans ?_ k1
    (repeat (with_reducible first | apply Kept.alloc | apply Kept.drewN | apply Kept.drew | apply Kept.rg | apply Kept.p | apply Kept.q | refine Kept.setCell ?_ (Or.inr (Nat.le_refl _)) _ | refine Kept.setCell ?_ (Or.inr (by omega)) _ | exact k1 | exact k2 | exact k3 | exact Kept.refl _ _))
  have d1 := hr1.c_op
  have e1 := hr1.f_op
  replace d1 : w1.cell? ⟨L.g, 141, none⟩ = some (.int .i64 st.op) := d1
  have g1 := hr1.lt.1
  have hfr1 := hr1.fresh
  clear c1 c2 f1
  go_wp2_with fail
  refine (rLength_any (st.read st.pc) _ r0).mono ?_
  rintro e w2 ⟨rfl, rfl⟩
  rw [HN.out]
  go_wp2_with fail
  refine (Ralone_any (st := { st with phase := 0, pc := (st.pc + 1) % 256, op := st.read st.pc }) ?hrep hiB (st.read st.pc)).mono ?_
  case hrep =>
    apply Rep.as
    · (repeat (with_reducible first | apply Rep.alloc | apply Rep.drewN | apply Rep.drew | apply Rep.set_bank | apply Rep.set_s0 | apply Rep.set_s1 | apply Rep.set_cause | apply Rep.set_left | apply Rep.set_down | apply Rep.set_a | apply Rep.set_x | apply Rep.set_pc | apply Rep.set_zero | apply Rep.set_carry | apply Rep.set_op | apply Rep.set_opd | apply Rep.set_phase | apply Rep.set_period | apply Rep.set_count | apply Rep.set_flag | apply Rep.set_age | apply Rep.set_window | apply Rep.set_windowed | apply Rep.set_key | apply Rep.set_out | apply Rep.set_inp | apply Rep.set_opn | apply Rep.set_place | apply Rep.set_rst | (apply Rep.other; case hb => exact hfr _ (by omega)) | exact hr | exact hr1 | exact hr2 | exact hr3))
    · rfl
  rintro e w3 ⟨rfl, hr2, k4⟩
  have kR := ((k1.rg _ _).alloc _).trans k4
  obtain ⟨hc2, hf2⟩ := kcell kR (b := w.heap.size) (by simp) (hfr _ (Nat.le_refl _))
  obtain ⟨hc3, hf3⟩ := kcell k4 (b := w1.heap.size) (by simp) (hfr1 _ (Nat.le_refl _))
  have hz2 : w.heap.size < w3.heap.size := by have := k4.size; simp at this; omega
  have k3 : Kept L.own w w3 := by
    refine Kept.trans ?_ k4
    (repeat (with_reducible first | apply Kept.alloc | apply Kept.drewN | apply Kept.drew | apply Kept.rg | apply Kept.p | apply Kept.q | refine Kept.setCell ?_ (Or.inr (Nat.le_refl _)) _ | refine Kept.setCell ?_ (Or.inr (by omega)) _ | exact k1 | exact k2 | exact k3 | exact Kept.refl _ _))
  clear k4 d1 e1
  go_wp2
  rw [HF.out]
  refine bodyPost_ret (v := .agg #[.int .i64 3, .int .i64 st.pc, .int .u8 (st.read st.pc), .int .u8 0]) (by simp [results, Tryz.results59, go_sem, hc2]) rfl ⟨rfl, ?r, ?k⟩
  case r =>
    apply Rep.as
    · (repeat (with_reducible first | apply Rep.alloc | apply Rep.drewN | apply Rep.drew | apply Rep.set_bank | apply Rep.set_s0 | apply Rep.set_s1 | apply Rep.set_cause | apply Rep.set_left | apply Rep.set_down | apply Rep.set_a | apply Rep.set_x | apply Rep.set_pc | apply Rep.set_zero | apply Rep.set_carry | apply Rep.set_op | apply Rep.set_opd | apply Rep.set_phase | apply Rep.set_period | apply Rep.set_count | apply Rep.set_flag | apply Rep.set_age | apply Rep.set_window | apply Rep.set_windowed | apply Rep.set_key | apply Rep.set_out | apply Rep.set_inp | apply Rep.set_opn | apply Rep.set_place | apply Rep.set_rst | (apply Rep.other; case hb => exact hfr _ (by omega)) | exact hr | exact hr1 | exact hr2 | exact hr3))
    · rfl
  case k => (repeat (with_reducible first | apply Kept.alloc | apply Kept.drewN | apply Kept.drew | apply Kept.rg | apply Kept.p | apply Kept.q | refine Kept.setCell ?_ (Or.inr (Nat.le_refl _)) _ | refine Kept.setCell ?_ (Or.inr (by omega)) _ | exact k1 | exact k2 | exact k3 | exact Kept.refl _ _))

set_option maxRecDepth 100000 in
set_option maxHeartbeats 1000000 in
theorem Rworks_more0 {L : Lay} {st : St} {w : World} (hr : Rep L st w) (hi : Inv st) (hb : 0 ≤ st.bank) (hp : st.phase = 0) (hl : ¬ opLen (st.read st.pc) = 0) (hl1 : ¬ opLen (st.read st.pc) = 1) :
    Calls Tryz.prog 59 #[.pointer (some ⟨L.g, 0, none⟩)] w fun e w' => e = .returned (.agg #[.int .i64 st.works.2.kind, .int .i64 st.works.2.addr, .int .u8 st.works.2.data, .int .u8 0]) ∧ Rep L st.works.1 w' ∧ Kept L.own w w' := by
  have hfr := hr.fresh
  obtain ⟨l1, l2, l3⟩ := hr.lt
  have hb2 : st.bank = 0 ∨ st.bank = 1 := by have := hi.bank; omega
  have HF : Hid (st.works = ({ st with phase := 1, pc := (st.pc + 1) % 256, op := st.read st.pc }, ⟨3, st.pc, st.read st.pc, 0⟩)) := by simp [Hid, St.works, hp, hl, hl1, St.next]
  have HL : Hid (opLen (st.read st.pc) = opLen (st.read st.pc)) := rfl
  obtain ⟨r0, r1⟩ := read_bounds hi hb st.pc
  have c1 := hr.c_phase
  have f1 := hr.f_phase
  have c2 := hr.c_flag
  rw [hp] at c1
  have hi0 : Inv { st with phase := 0 } := { hi with phase := (by decide : (0 : Int) ≤ 0 ∧ (0 : Int) ≤ 3), ph2 := fun h => absurd h (by decide : ¬ (0 : Int) = 2) }
  clear hp
  have hn0 : (opLen (st.read st.pc) == 0) = false := by simpa using hl
  have hn1 : (opLen (st.read st.pc) == 1) = false := by simpa using hl1
  clear hl hl1
  go_enter Tryz.func59, Tryz.ntmps59
  go_wp2_with fail
  refine (Rnext_any (st := { st with phase := 0 }) ?hrep hi0 hb 3).mono ?_
  case hrep =>
    apply Rep.as
    · (repeat (with_reducible first | apply Rep.alloc | apply Rep.drewN | apply Rep.drew | apply Rep.set_bank | apply Rep.set_s0 | apply Rep.set_s1 | apply Rep.set_cause | apply Rep.set_left | apply Rep.set_down | apply Rep.set_a | apply Rep.set_x | apply Rep.set_pc | apply Rep.set_zero | apply Rep.set_carry | apply Rep.set_op | apply Rep.set_opd | apply Rep.set_phase | apply Rep.set_period | apply Rep.set_count | apply Rep.set_flag | apply Rep.set_age | apply Rep.set_window | apply Rep.set_windowed | apply Rep.set_key | apply Rep.set_out | apply Rep.set_inp | apply Rep.set_opn | apply Rep.set_place | apply Rep.set_rst | (apply Rep.other; case hb => exact hfr _ (by omega)) | exact hr | exact hr1 | exact hr2 | exact hr3))
    · rfl
  rintro e w1 ⟨rfl, hr1, k1⟩
  replace hr1 : Rep L { st with phase := 0, pc := (st.pc + 1) % 256 } w1 := hr1
  rw [show ({ st with phase := 0 } : St).read ({ st with phase := 0 } : St).pc = st.read st.pc from rfl]
  rw [show ({ st with phase := 0 } : St).pc = st.pc from rfl]
  obtain ⟨hc, hf⟩ := kcell k1 (b := w.heap.size) (by simp) (hfr _ (Nat.le_refl _))
  have hz : w.heap.size < w1.heap.size := by have := k1.size; simp at this; omega
  have k2 : Kept L.own w w1 := by
    refine Kept.trans ?_ k1
    (repeat (with_reducible first | apply Kept.alloc | apply Kept.drewN | apply Kept.drew | apply Kept.rg | apply Kept.p | apply Kept.q | refine Kept.setCell ?_ (Or.inr (Nat.le_refl _)) _ | refine Kept.setCell ?_ (Or.inr (by omega)) _ | exact k1 | exact k2 | exact k3 | exact Kept.refl _ _))
  have d1 := hr1.c_op
  have e1 := hr1.f_op
  replace d1 : w1.cell? ⟨L.g, 141, none⟩ = some (.int .i64 st.op) := d1
  have g1 := hr1.lt.1
  have hfr1 := hr1.fresh
  clear c1 c2 f1
  go_wp2_with fail
  refine (rLength_any (st.read st.pc) _ r0).mono ?_
  rintro e w2 ⟨rfl, rfl⟩
  have d3 := hr1.c_phase
  have e3 := hr1.f_phase
  replace d3 : w1.cell? ⟨L.g, 143, none⟩ = some (.int .i64 0) := d3
  go_wp2
  rw [HF.out]
  refine bodyPost_ret (v := .agg #[.int .i64 3, .int .i64 st.pc, .int .u8 (st.read st.pc), .int .u8 0]) (by simp [results, Tryz.results59, go_sem, hc, hz]) rfl ⟨rfl, ?r, ?k⟩
  case r =>
    apply Rep.as
    · (repeat (with_reducible first | apply Rep.alloc | apply Rep.drewN | apply Rep.drew | apply Rep.set_bank | apply Rep.set_s0 | apply Rep.set_s1 | apply Rep.set_cause | apply Rep.set_left | apply Rep.set_down | apply Rep.set_a | apply Rep.set_x | apply Rep.set_pc | apply Rep.set_zero | apply Rep.set_carry | apply Rep.set_op | apply Rep.set_opd | apply Rep.set_phase | apply Rep.set_period | apply Rep.set_count | apply Rep.set_flag | apply Rep.set_age | apply Rep.set_window | apply Rep.set_windowed | apply Rep.set_key | apply Rep.set_out | apply Rep.set_inp | apply Rep.set_opn | apply Rep.set_place | apply Rep.set_rst | (apply Rep.other; case hb => exact hfr _ (by omega)) | exact hr | exact hr1 | exact hr2 | exact hr3))
    · rfl
  case k => (repeat (with_reducible first | apply Kept.alloc | apply Kept.drewN | apply Kept.drew | apply Kept.rg | apply Kept.p | apply Kept.q | refine Kept.setCell ?_ (Or.inr (Nat.le_refl _)) _ | refine Kept.setCell ?_ (Or.inr (by omega)) _ | exact k1 | exact k2 | exact k3 | exact Kept.refl _ _))

set_option maxRecDepth 100000 in
set_option maxHeartbeats 1000000 in
theorem Rworks_trap3 {L : Lay} {st : St} {w : World} (hr : Rep L st w) (hi : Inv st) (hb : 0 ≤ st.bank) (hp : st.phase = 3) (hfl : st.flag = true) (hl : opLen (st.read st.pc) = 0) :
    Calls Tryz.prog 59 #[.pointer (some ⟨L.g, 0, none⟩)] w fun e w' => e = .returned (.agg #[.int .i64 st.works.2.kind, .int .i64 st.works.2.addr, .int .u8 st.works.2.data, .int .u8 0]) ∧ Rep L st.works.1 w' ∧ Kept L.own w w' := by
  have hfr := hr.fresh
  obtain ⟨l1, l2, l3⟩ := hr.lt
  have hb2 : st.bank = 0 ∨ st.bank = 1 := by have := hi.bank; omega
  have HF : Hid (st.works = (({ st with phase := 0, pc := (st.pc + 1) % 256, op := st.read st.pc } : St).reset 4, ⟨3, st.pc, st.read st.pc, 0⟩)) := by simp [Hid, St.works, hp, hfl, hl, St.next]
  have HL : Hid (opLen (st.read st.pc) = opLen (st.read st.pc)) := rfl
  obtain ⟨r0, r1⟩ := read_bounds hi hb st.pc
  have c1 := hr.c_phase
  have f1 := hr.f_phase
  have c2 := hr.c_flag
  rw [hp] at c1
  rw [hfl] at c2
  have hi0 : Inv { st with phase := 0 } := { hi with phase := (by decide : (0 : Int) ≤ 0 ∧ (0 : Int) ≤ 3), ph2 := fun h => absurd h (by decide : ¬ (0 : Int) = 2) }
  clear hp hfl
  have HN : Hid (opLen (st.read st.pc) = 0) := hl
  clear hl
  go_enter Tryz.func59, Tryz.ntmps59
  go_wp2_with fail
  refine (Rnext_any (st := { st with phase := 0 }) ?hrep hi0 hb 3).mono ?_
  case hrep =>
    apply Rep.as
    · (repeat (with_reducible first | apply Rep.alloc | apply Rep.drewN | apply Rep.drew | apply Rep.set_bank | apply Rep.set_s0 | apply Rep.set_s1 | apply Rep.set_cause | apply Rep.set_left | apply Rep.set_down | apply Rep.set_a | apply Rep.set_x | apply Rep.set_pc | apply Rep.set_zero | apply Rep.set_carry | apply Rep.set_op | apply Rep.set_opd | apply Rep.set_phase | apply Rep.set_period | apply Rep.set_count | apply Rep.set_flag | apply Rep.set_age | apply Rep.set_window | apply Rep.set_windowed | apply Rep.set_key | apply Rep.set_out | apply Rep.set_inp | apply Rep.set_opn | apply Rep.set_place | apply Rep.set_rst | (apply Rep.other; case hb => exact hfr _ (by omega)) | exact hr | exact hr1 | exact hr2 | exact hr3))
    · rfl
  rintro e w1 ⟨rfl, hr1, k1⟩
  replace hr1 : Rep L { st with phase := 0, pc := (st.pc + 1) % 256 } w1 := hr1
  rw [show ({ st with phase := 0 } : St).read ({ st with phase := 0 } : St).pc = st.read st.pc from rfl]
  rw [show ({ st with phase := 0 } : St).pc = st.pc from rfl]
  obtain ⟨hc, hf⟩ := kcell k1 (b := w.heap.size) (by simp) (hfr _ (Nat.le_refl _))
  have hz : w.heap.size < w1.heap.size := by have := k1.size; simp at this; omega
  have k2 : Kept L.own w w1 := by
    refine Kept.trans ?_ k1
    (repeat (with_reducible first | apply Kept.alloc | apply Kept.drewN | apply Kept.drew | apply Kept.rg | apply Kept.p | apply Kept.q | refine Kept.setCell ?_ (Or.inr (Nat.le_refl _)) _ | refine Kept.setCell ?_ (Or.inr (by omega)) _ | exact k1 | exact k2 | exact k3 | exact Kept.refl _ _))
  have d1 := hr1.c_op
  have e1 := hr1.f_op
  replace d1 : w1.cell? ⟨L.g, 141, none⟩ = some (.int .i64 st.op) := d1
  have g1 := hr1.lt.1
  have hfr1 := hr1.fresh
  clear c1 c2 f1
  go_wp2_with fail
  refine (rLength_any (st.read st.pc) _ r0).mono ?_
  rintro e w2 ⟨rfl, rfl⟩
  rw [HN.out]
  go_wp2_with fail
  refine (Rreset_any (st := { st with phase := 0, pc := (st.pc + 1) % 256, op := st.read st.pc }) ?hrep 4 (Or.inr hb2)).mono ?_
  case hrep =>
    apply Rep.as
    · (repeat (with_reducible first | apply Rep.alloc | apply Rep.drewN | apply Rep.drew | apply Rep.set_bank | apply Rep.set_s0 | apply Rep.set_s1 | apply Rep.set_cause | apply Rep.set_left | apply Rep.set_down | apply Rep.set_a | apply Rep.set_x | apply Rep.set_pc | apply Rep.set_zero | apply Rep.set_carry | apply Rep.set_op | apply Rep.set_opd | apply Rep.set_phase | apply Rep.set_period | apply Rep.set_count | apply Rep.set_flag | apply Rep.set_age | apply Rep.set_window | apply Rep.set_windowed | apply Rep.set_key | apply Rep.set_out | apply Rep.set_inp | apply Rep.set_opn | apply Rep.set_place | apply Rep.set_rst | (apply Rep.other; case hb => exact hfr _ (by omega)) | exact hr | exact hr1 | exact hr2 | exact hr3))
    · rfl
  rintro e w3 ⟨rfl, hr2, k4⟩
  have kR := ((k1.rg _ _).alloc _).trans k4
  obtain ⟨hc2, hf2⟩ := kcell kR (b := w.heap.size) (by simp) (hfr _ (Nat.le_refl _))
  obtain ⟨hc3, hf3⟩ := kcell k4 (b := w1.heap.size) (by simp) (hfr1 _ (Nat.le_refl _))
  have hz2 : w.heap.size < w3.heap.size := by have := k4.size; simp at this; omega
  have k3 : Kept L.own w w3 := by
    refine Kept.trans ?_ k4
    (repeat (with_reducible first | apply Kept.alloc | apply Kept.drewN | apply Kept.drew | apply Kept.rg | apply Kept.p | apply Kept.q | refine Kept.setCell ?_ (Or.inr (Nat.le_refl _)) _ | refine Kept.setCell ?_ (Or.inr (by omega)) _ | exact k1 | exact k2 | exact k3 | exact Kept.refl _ _))
  clear k4 d1 e1
  go_wp2
  rw [HF.out]
  refine bodyPost_ret (v := .agg #[.int .i64 3, .int .i64 st.pc, .int .u8 (st.read st.pc), .int .u8 0]) (by simp [results, Tryz.results59, go_sem, hc2]) rfl ⟨rfl, ?r, ?k⟩
  case r =>
    apply Rep.as
    · (repeat (with_reducible first | apply Rep.alloc | apply Rep.drewN | apply Rep.drew | apply Rep.set_bank | apply Rep.set_s0 | apply Rep.set_s1 | apply Rep.set_cause | apply Rep.set_left | apply Rep.set_down | apply Rep.set_a | apply Rep.set_x | apply Rep.set_pc | apply Rep.set_zero | apply Rep.set_carry | apply Rep.set_op | apply Rep.set_opd | apply Rep.set_phase | apply Rep.set_period | apply Rep.set_count | apply Rep.set_flag | apply Rep.set_age | apply Rep.set_window | apply Rep.set_windowed | apply Rep.set_key | apply Rep.set_out | apply Rep.set_inp | apply Rep.set_opn | apply Rep.set_place | apply Rep.set_rst | (apply Rep.other; case hb => exact hfr _ (by omega)) | exact hr | exact hr1 | exact hr2 | exact hr3))
    · rfl
  case k => (repeat (with_reducible first | apply Kept.alloc | apply Kept.drewN | apply Kept.drew | apply Kept.rg | apply Kept.p | apply Kept.q | refine Kept.setCell ?_ (Or.inr (Nat.le_refl _)) _ | refine Kept.setCell ?_ (Or.inr (by omega)) _ | exact k1 | exact k2 | exact k3 | exact Kept.refl _ _))

set_option maxRecDepth 100000 in
set_option maxHeartbeats 1000000 in
theorem Rworks_alone3 {L : Lay} {st : St} {w : World} (hr : Rep L st w) (hi : Inv st) (hb : 0 ≤ st.bank) (hp : st.phase = 3) (hfl : st.flag = true) (hl : opLen (st.read st.pc) = 1) :
    Calls Tryz.prog 59 #[.pointer (some ⟨L.g, 0, none⟩)] w fun e w' => e = .returned (.agg #[.int .i64 st.works.2.kind, .int .i64 st.works.2.addr, .int .u8 st.works.2.data, .int .u8 0]) ∧ Rep L st.works.1 w' ∧ Kept L.own w w' := by
  have hfr := hr.fresh
  obtain ⟨l1, l2, l3⟩ := hr.lt
  have hb2 : st.bank = 0 ∨ st.bank = 1 := by have := hi.bank; omega
  have HF : Hid (st.works = (({ st with phase := 0, pc := (st.pc + 1) % 256, op := st.read st.pc } : St).alone (st.read st.pc), ⟨3, st.pc, st.read st.pc, 0⟩)) := by simp [Hid, St.works, hp, hfl, hl, St.next]
  have HL : Hid (opLen (st.read st.pc) = opLen (st.read st.pc)) := rfl
  obtain ⟨r0, r1⟩ := read_bounds hi hb st.pc
  have c1 := hr.c_phase
  have f1 := hr.f_phase
  have c2 := hr.c_flag
  rw [hp] at c1
  rw [hfl] at c2
  have hi0 : Inv { st with phase := 0 } := { hi with phase := (by decide : (0 : Int) ≤ 0 ∧ (0 : Int) ≤ 3), ph2 := fun h => absurd h (by decide : ¬ (0 : Int) = 2) }
  clear hp hfl
  have HN : Hid (opLen (st.read st.pc) = 1) := hl
  have hiB : Inv { st with phase := 0, pc := (st.pc + 1) % 256, op := st.read st.pc } := { hi0 with pc := (by constructor <;> omega : 0 ≤ (st.pc + 1) % 256 ∧ (st.pc + 1) % 256 ≤ 255), op := ⟨r0, r1⟩, ph2 := fun h => absurd h (by decide : ¬ (0 : Int) = 2) }
  clear hl
  go_enter Tryz.func59, Tryz.ntmps59
  go_wp2_with fail
  refine (Rnext_any (st := { st with phase := 0 }) ?hrep hi0 hb 3).mono ?_
  case hrep =>
    apply Rep.as
    · (repeat (with_reducible first | apply Rep.alloc | apply Rep.drewN | apply Rep.drew | apply Rep.set_bank | apply Rep.set_s0 | apply Rep.set_s1 | apply Rep.set_cause | apply Rep.set_left | apply Rep.set_down | apply Rep.set_a | apply Rep.set_x | apply Rep.set_pc | apply Rep.set_zero | apply Rep.set_carry | apply Rep.set_op | apply Rep.set_opd | apply Rep.set_phase | apply Rep.set_period | apply Rep.set_count | apply Rep.set_flag | apply Rep.set_age | apply Rep.set_window | apply Rep.set_windowed | apply Rep.set_key | apply Rep.set_out | apply Rep.set_inp | apply Rep.set_opn | apply Rep.set_place | apply Rep.set_rst | (apply Rep.other; case hb => exact hfr _ (by omega)) | exact hr | exact hr1 | exact hr2 | exact hr3))
    · rfl
  rintro e w1 ⟨rfl, hr1, k1⟩
  replace hr1 : Rep L { st with phase := 0, pc := (st.pc + 1) % 256 } w1 := hr1
  rw [show ({ st with phase := 0 } : St).read ({ st with phase := 0 } : St).pc = st.read st.pc from rfl]
  rw [show ({ st with phase := 0 } : St).pc = st.pc from rfl]
  obtain ⟨hc, hf⟩ := kcell k1 (b := w.heap.size) (by simp) (hfr _ (Nat.le_refl _))
  have hz : w.heap.size < w1.heap.size := by have := k1.size; simp at this; omega
  have k2 : Kept L.own w w1 := by
    refine Kept.trans ?_ k1
    (repeat (with_reducible first | apply Kept.alloc | apply Kept.drewN | apply Kept.drew | apply Kept.rg | apply Kept.p | apply Kept.q | refine Kept.setCell ?_ (Or.inr (Nat.le_refl _)) _ | refine Kept.setCell ?_ (Or.inr (by omega)) _ | exact k1 | exact k2 | exact k3 | exact Kept.refl _ _))
  have d1 := hr1.c_op
  have e1 := hr1.f_op
  replace d1 : w1.cell? ⟨L.g, 141, none⟩ = some (.int .i64 st.op) := d1
  have g1 := hr1.lt.1
  have hfr1 := hr1.fresh
  clear c1 c2 f1
  go_wp2_with fail
  refine (rLength_any (st.read st.pc) _ r0).mono ?_
  rintro e w2 ⟨rfl, rfl⟩
  rw [HN.out]
  go_wp2_with fail
  refine (Ralone_any (st := { st with phase := 0, pc := (st.pc + 1) % 256, op := st.read st.pc }) ?hrep hiB (st.read st.pc)).mono ?_
  case hrep =>
    apply Rep.as
    · (repeat (with_reducible first | apply Rep.alloc | apply Rep.drewN | apply Rep.drew | apply Rep.set_bank | apply Rep.set_s0 | apply Rep.set_s1 | apply Rep.set_cause | apply Rep.set_left | apply Rep.set_down | apply Rep.set_a | apply Rep.set_x | apply Rep.set_pc | apply Rep.set_zero | apply Rep.set_carry | apply Rep.set_op | apply Rep.set_opd | apply Rep.set_phase | apply Rep.set_period | apply Rep.set_count | apply Rep.set_flag | apply Rep.set_age | apply Rep.set_window | apply Rep.set_windowed | apply Rep.set_key | apply Rep.set_out | apply Rep.set_inp | apply Rep.set_opn | apply Rep.set_place | apply Rep.set_rst | (apply Rep.other; case hb => exact hfr _ (by omega)) | exact hr | exact hr1 | exact hr2 | exact hr3))
    · rfl
  rintro e w3 ⟨rfl, hr2, k4⟩
  have kR := ((k1.rg _ _).alloc _).trans k4
  obtain ⟨hc2, hf2⟩ := kcell kR (b := w.heap.size) (by simp) (hfr _ (Nat.le_refl _))
  obtain ⟨hc3, hf3⟩ := kcell k4 (b := w1.heap.size) (by simp) (hfr1 _ (Nat.le_refl _))
  have hz2 : w.heap.size < w3.heap.size := by have := k4.size; simp at this; omega
  have k3 : Kept L.own w w3 := by
    refine Kept.trans ?_ k4
    (repeat (with_reducible first | apply Kept.alloc | apply Kept.drewN | apply Kept.drew | apply Kept.rg | apply Kept.p | apply Kept.q | refine Kept.setCell ?_ (Or.inr (Nat.le_refl _)) _ | refine Kept.setCell ?_ (Or.inr (by omega)) _ | exact k1 | exact k2 | exact k3 | exact Kept.refl _ _))
  clear k4 d1 e1
  go_wp2
  rw [HF.out]
  refine bodyPost_ret (v := .agg #[.int .i64 3, .int .i64 st.pc, .int .u8 (st.read st.pc), .int .u8 0]) (by simp [results, Tryz.results59, go_sem, hc2]) rfl ⟨rfl, ?r, ?k⟩
  case r =>
    apply Rep.as
    · (repeat (with_reducible first | apply Rep.alloc | apply Rep.drewN | apply Rep.drew | apply Rep.set_bank | apply Rep.set_s0 | apply Rep.set_s1 | apply Rep.set_cause | apply Rep.set_left | apply Rep.set_down | apply Rep.set_a | apply Rep.set_x | apply Rep.set_pc | apply Rep.set_zero | apply Rep.set_carry | apply Rep.set_op | apply Rep.set_opd | apply Rep.set_phase | apply Rep.set_period | apply Rep.set_count | apply Rep.set_flag | apply Rep.set_age | apply Rep.set_window | apply Rep.set_windowed | apply Rep.set_key | apply Rep.set_out | apply Rep.set_inp | apply Rep.set_opn | apply Rep.set_place | apply Rep.set_rst | (apply Rep.other; case hb => exact hfr _ (by omega)) | exact hr | exact hr1 | exact hr2 | exact hr3))
    · rfl
  case k => (repeat (with_reducible first | apply Kept.alloc | apply Kept.drewN | apply Kept.drew | apply Kept.rg | apply Kept.p | apply Kept.q | refine Kept.setCell ?_ (Or.inr (Nat.le_refl _)) _ | refine Kept.setCell ?_ (Or.inr (by omega)) _ | exact k1 | exact k2 | exact k3 | exact Kept.refl _ _))

set_option maxRecDepth 100000 in
set_option maxHeartbeats 1000000 in
theorem Rworks_more3 {L : Lay} {st : St} {w : World} (hr : Rep L st w) (hi : Inv st) (hb : 0 ≤ st.bank) (hp : st.phase = 3) (hfl : st.flag = true) (hl : ¬ opLen (st.read st.pc) = 0) (hl1 : ¬ opLen (st.read st.pc) = 1) :
    Calls Tryz.prog 59 #[.pointer (some ⟨L.g, 0, none⟩)] w fun e w' => e = .returned (.agg #[.int .i64 st.works.2.kind, .int .i64 st.works.2.addr, .int .u8 st.works.2.data, .int .u8 0]) ∧ Rep L st.works.1 w' ∧ Kept L.own w w' := by
  have hfr := hr.fresh
  obtain ⟨l1, l2, l3⟩ := hr.lt
  have hb2 : st.bank = 0 ∨ st.bank = 1 := by have := hi.bank; omega
  have HF : Hid (st.works = ({ st with phase := 1, pc := (st.pc + 1) % 256, op := st.read st.pc }, ⟨3, st.pc, st.read st.pc, 0⟩)) := by simp [Hid, St.works, hp, hfl, hl, hl1, St.next]
  have HL : Hid (opLen (st.read st.pc) = opLen (st.read st.pc)) := rfl
  obtain ⟨r0, r1⟩ := read_bounds hi hb st.pc
  have c1 := hr.c_phase
  have f1 := hr.f_phase
  have c2 := hr.c_flag
  rw [hp] at c1
  rw [hfl] at c2
  have hi0 : Inv { st with phase := 0 } := { hi with phase := (by decide : (0 : Int) ≤ 0 ∧ (0 : Int) ≤ 3), ph2 := fun h => absurd h (by decide : ¬ (0 : Int) = 2) }
  clear hp hfl
  have hn0 : (opLen (st.read st.pc) == 0) = false := by simpa using hl
  have hn1 : (opLen (st.read st.pc) == 1) = false := by simpa using hl1
  clear hl hl1
  go_enter Tryz.func59, Tryz.ntmps59
  go_wp2_with fail
  refine (Rnext_any (st := { st with phase := 0 }) ?hrep hi0 hb 3).mono ?_
  case hrep =>
    apply Rep.as
    · (repeat (with_reducible first | apply Rep.alloc | apply Rep.drewN | apply Rep.drew | apply Rep.set_bank | apply Rep.set_s0 | apply Rep.set_s1 | apply Rep.set_cause | apply Rep.set_left | apply Rep.set_down | apply Rep.set_a | apply Rep.set_x | apply Rep.set_pc | apply Rep.set_zero | apply Rep.set_carry | apply Rep.set_op | apply Rep.set_opd | apply Rep.set_phase | apply Rep.set_period | apply Rep.set_count | apply Rep.set_flag | apply Rep.set_age | apply Rep.set_window | apply Rep.set_windowed | apply Rep.set_key | apply Rep.set_out | apply Rep.set_inp | apply Rep.set_opn | apply Rep.set_place | apply Rep.set_rst | (apply Rep.other; case hb => exact hfr _ (by omega)) | exact hr | exact hr1 | exact hr2 | exact hr3))
    · rfl
  rintro e w1 ⟨rfl, hr1, k1⟩
  replace hr1 : Rep L { st with phase := 0, pc := (st.pc + 1) % 256 } w1 := hr1
  rw [show ({ st with phase := 0 } : St).read ({ st with phase := 0 } : St).pc = st.read st.pc from rfl]
  rw [show ({ st with phase := 0 } : St).pc = st.pc from rfl]
  obtain ⟨hc, hf⟩ := kcell k1 (b := w.heap.size) (by simp) (hfr _ (Nat.le_refl _))
  have hz : w.heap.size < w1.heap.size := by have := k1.size; simp at this; omega
  have k2 : Kept L.own w w1 := by
    refine Kept.trans ?_ k1
    (repeat (with_reducible first | apply Kept.alloc | apply Kept.drewN | apply Kept.drew | apply Kept.rg | apply Kept.p | apply Kept.q | refine Kept.setCell ?_ (Or.inr (Nat.le_refl _)) _ | refine Kept.setCell ?_ (Or.inr (by omega)) _ | exact k1 | exact k2 | exact k3 | exact Kept.refl _ _))
  have d1 := hr1.c_op
  have e1 := hr1.f_op
  replace d1 : w1.cell? ⟨L.g, 141, none⟩ = some (.int .i64 st.op) := d1
  have g1 := hr1.lt.1
  have hfr1 := hr1.fresh
  clear c1 c2 f1
  go_wp2_with fail
  refine (rLength_any (st.read st.pc) _ r0).mono ?_
  rintro e w2 ⟨rfl, rfl⟩
  have d3 := hr1.c_phase
  have e3 := hr1.f_phase
  replace d3 : w1.cell? ⟨L.g, 143, none⟩ = some (.int .i64 0) := d3
  go_wp2
  rw [HF.out]
  refine bodyPost_ret (v := .agg #[.int .i64 3, .int .i64 st.pc, .int .u8 (st.read st.pc), .int .u8 0]) (by simp [results, Tryz.results59, go_sem, hc, hz]) rfl ⟨rfl, ?r, ?k⟩
  case r =>
    apply Rep.as
    · (repeat (with_reducible first | apply Rep.alloc | apply Rep.drewN | apply Rep.drew | apply Rep.set_bank | apply Rep.set_s0 | apply Rep.set_s1 | apply Rep.set_cause | apply Rep.set_left | apply Rep.set_down | apply Rep.set_a | apply Rep.set_x | apply Rep.set_pc | apply Rep.set_zero | apply Rep.set_carry | apply Rep.set_op | apply Rep.set_opd | apply Rep.set_phase | apply Rep.set_period | apply Rep.set_count | apply Rep.set_flag | apply Rep.set_age | apply Rep.set_window | apply Rep.set_windowed | apply Rep.set_key | apply Rep.set_out | apply Rep.set_inp | apply Rep.set_opn | apply Rep.set_place | apply Rep.set_rst | (apply Rep.other; case hb => exact hfr _ (by omega)) | exact hr | exact hr1 | exact hr2 | exact hr3))
    · rfl
  case k => (repeat (with_reducible first | apply Kept.alloc | apply Kept.drewN | apply Kept.drew | apply Kept.rg | apply Kept.p | apply Kept.q | refine Kept.setCell ?_ (Or.inr (Nat.le_refl _)) _ | refine Kept.setCell ?_ (Or.inr (by omega)) _ | exact k1 | exact k2 | exact k3 | exact Kept.refl _ _))

theorem Rworks_any {L : Lay} {st : St} {w : World} (hr : Rep L st w) (hi : Inv st) (hb : 0 ≤ st.bank) :
    Calls Tryz.prog 59 #[.pointer (some ⟨L.g, 0, none⟩)] w fun e w' => e = .returned (.agg #[.int .i64 st.works.2.kind, .int .i64 st.works.2.addr, .int .u8 st.works.2.data, .int .u8 0]) ∧ Rep L st.works.1 w' ∧ Kept L.own w w' := by
  have hp := hi.phase
  by_cases p1 : st.phase = 1
  · by_cases hl : opLen st.op = 3
    · exact Rworks_operand3 hr hi hb p1 hl
    · exact Rworks_operand2 hr hi hb p1 hl
  by_cases p2 : st.phase = 2
  · exact Rworks_asks hr hi hb p2 (hi.ph2 p2).1 (hi.ph2 p2).2
  by_cases p3 : st.phase = 3
  · cases hf : st.flag
    · exact Rworks_idle hr hi hb p3 hf
    · by_cases hl : opLen (st.read st.pc) = 0
      · exact Rworks_trap3 hr hi hb p3 hf hl
      · by_cases hl1 : opLen (st.read st.pc) = 1
        · exact Rworks_alone3 hr hi hb p3 hf hl1
        · exact Rworks_more3 hr hi hb p3 hf hl hl1
  · have p0 : st.phase = 0 := by omega
    by_cases hl : opLen (st.read st.pc) = 0
    · exact Rworks_trap0 hr hi hb p0 hl
    · by_cases hl1 : opLen (st.read st.pc) = 1
      · exact Rworks_alone0 hr hi hb p0 hl1
      · exact Rworks_more0 hr hi hb p0 hl hl1


end Go.Proofs.YtikdbpphbdbdnaaGreat

/- The document's board: a cycle in which the processor works. -/
namespace Go.Proofs.YtikdbpphbdbdnaaGreat
open Go.RowKit
set_option linter.unusedVariables false

set_option maxRecDepth 100000 in
set_option maxHeartbeats 1000000 in
theorem Rruns_reset {L : Lay} {st S : St} {C : Cy} {w : World} (hr : Rep L st w) (hiS : Inv S) (hbS : S.bank = 0 ∨ S.bank = 1)
    (hcall : Calls Tryz.prog 59 #[.pointer (some ⟨L.g, 0, none⟩)] ((w.setCell ⟨L.g, 155, none⟩ (.int .i64 0)).alloc (.cells #[.int .i64 0, .int .i64 0, .int .u8 0, .int .u8 0] 54)) fun e w' => e = .returned (.agg #[.int .i64 C.kind, .int .i64 C.addr, .int .u8 C.data, .int .u8 0]) ∧ Rep L S w' ∧ Kept L.own ((w.setCell ⟨L.g, 155, none⟩ (.int .i64 0)).alloc (.cells #[.int .i64 0, .int .i64 0, .int .u8 0, .int .u8 0] 54)) w')
    (hs : (S.rst == 0) = false) :
    Calls Tryz.prog 51 #[.pointer (some ⟨L.g, 0, none⟩)] w fun e w' => e = .returned (.agg #[.int .i64 C.kind, .int .i64 C.addr, .int .u8 C.data, .int .u8 S.out]) ∧ Rep L (S) w' ∧ Kept L.own w w' := by
  have hfr := hr.fresh
  obtain ⟨l1, l2, l3⟩ := hr.lt
  obtain ⟨a0, a1⟩ := hiS.age
  obtain ⟨p0, p1⟩ := hiS.period
  obtain ⟨n0, n1⟩ := hiS.count
  have c1 := hr.c_rst
  have f1 := hr.f_rst
  have HC : Hid _ := hcall
  clear hcall
  go_enter Tryz.func51, Tryz.ntmps51
  go_wp2_with fail
  refine Calls.mono HC.out ?_
  rintro e w1 ⟨rfl, hr1, k1⟩
  obtain ⟨hc, hf⟩ := kcell k1 (b := w.heap.size) (by simp) (hfr _ (Nat.le_refl _))
  have hz : w.heap.size < w1.heap.size := by have := k1.size; simp at this; omega
  have hfr1 := hr1.fresh
  have k2 : Kept L.own w w1 := by
    refine Kept.trans ?_ k1
    (repeat (with_reducible first | apply Kept.alloc | apply Kept.drewN | apply Kept.drew | apply Kept.rg | apply Kept.p | apply Kept.q | refine Kept.setCell ?_ (Or.inr (Nat.le_refl _)) _ | refine Kept.setCell ?_ (Or.inr (by omega)) _ | exact k1 | exact k2 | exact k3 | exact Kept.refl _ _))
  have d1 := hr1.c_rst
  have d2 := hr1.c_period
  have d3 := hr1.c_count
  have e3 := hr1.f_count
  have d4 := hr1.c_flag
  have e4 := hr1.f_flag
  have d5 := hr1.c_age
  have e5 := hr1.f_age
  have d6 := hr1.c_out
  have g1 := hr1.lt.1
  clear c1 f1
  go_wp2
  refine bodyPost_ret (v := .agg #[.int .i64 C.kind, .int .i64 C.addr, .int .u8 C.data, .int .u8 S.out]) (by simp [results, Tryz.results51, go_sem, hc, hz]) rfl ⟨rfl, ?r, ?k⟩
  case r =>
    apply Rep.as
    · (repeat (with_reducible first | apply Rep.alloc | apply Rep.drewN | apply Rep.drew | apply Rep.set_bank | apply Rep.set_s0 | apply Rep.set_s1 | apply Rep.set_cause | apply Rep.set_left | apply Rep.set_down | apply Rep.set_a | apply Rep.set_x | apply Rep.set_pc | apply Rep.set_zero | apply Rep.set_carry | apply Rep.set_op | apply Rep.set_opd | apply Rep.set_phase | apply Rep.set_period | apply Rep.set_count | apply Rep.set_flag | apply Rep.set_age | apply Rep.set_window | apply Rep.set_windowed | apply Rep.set_key | apply Rep.set_out | apply Rep.set_inp | apply Rep.set_opn | apply Rep.set_place | apply Rep.set_rst | (apply Rep.other; case hb => exact hfr _ (by omega)) | exact hr | exact hr1 | exact hr2 | exact hr3))
    · rfl
  case k => (repeat (with_reducible first | apply Kept.alloc | apply Kept.drewN | apply Kept.drew | apply Kept.rg | apply Kept.p | apply Kept.q | refine Kept.setCell ?_ (Or.inr (Nat.le_refl _)) _ | refine Kept.setCell ?_ (Or.inr (by omega)) _ | exact k1 | exact k2 | exact k3 | exact Kept.refl _ _))

set_option maxRecDepth 100000 in
set_option maxHeartbeats 1000000 in
theorem Rruns_still_on {L : Lay} {st S : St} {C : Cy} {w : World} (hr : Rep L st w) (hiS : Inv S) (hbS : S.bank = 0 ∨ S.bank = 1)
    (hcall : Calls Tryz.prog 59 #[.pointer (some ⟨L.g, 0, none⟩)] ((w.setCell ⟨L.g, 155, none⟩ (.int .i64 0)).alloc (.cells #[.int .i64 0, .int .i64 0, .int .u8 0, .int .u8 0] 54)) fun e w' => e = .returned (.agg #[.int .i64 C.kind, .int .i64 C.addr, .int .u8 C.data, .int .u8 0]) ∧ Rep L S w' ∧ Kept L.own ((w.setCell ⟨L.g, 155, none⟩ (.int .i64 0)).alloc (.cells #[.int .i64 0, .int .i64 0, .int .u8 0, .int .u8 0] 54)) w')
    (hs : S.rst = 0) (hp : ¬ 0 < S.period) (hl : ¬ 250 < S.age + 1) :
    Calls Tryz.prog 51 #[.pointer (some ⟨L.g, 0, none⟩)] w fun e w' => e = .returned (.agg #[.int .i64 C.kind, .int .i64 C.addr, .int .u8 C.data, .int .u8 S.out]) ∧ Rep L ({ S with age := S.age + 1 }) w' ∧ Kept L.own w w' := by
  have hfr := hr.fresh
  obtain ⟨l1, l2, l3⟩ := hr.lt
  obtain ⟨a0, a1⟩ := hiS.age
  obtain ⟨p0, p1⟩ := hiS.period
  obtain ⟨n0, n1⟩ := hiS.count
  have c1 := hr.c_rst
  have f1 := hr.f_rst
  have HC : Hid _ := hcall
  clear hcall
  go_enter Tryz.func51, Tryz.ntmps51
  go_wp2_with fail
  refine Calls.mono HC.out ?_
  rintro e w1 ⟨rfl, hr1, k1⟩
  obtain ⟨hc, hf⟩ := kcell k1 (b := w.heap.size) (by simp) (hfr _ (Nat.le_refl _))
  have hz : w.heap.size < w1.heap.size := by have := k1.size; simp at this; omega
  have hfr1 := hr1.fresh
  have k2 : Kept L.own w w1 := by
    refine Kept.trans ?_ k1
    (repeat (with_reducible first | apply Kept.alloc | apply Kept.drewN | apply Kept.drew | apply Kept.rg | apply Kept.p | apply Kept.q | refine Kept.setCell ?_ (Or.inr (Nat.le_refl _)) _ | refine Kept.setCell ?_ (Or.inr (by omega)) _ | exact k1 | exact k2 | exact k3 | exact Kept.refl _ _))
  have d1 := hr1.c_rst
  have d2 := hr1.c_period
  have d3 := hr1.c_count
  have e3 := hr1.f_count
  have d4 := hr1.c_flag
  have e4 := hr1.f_flag
  have d5 := hr1.c_age
  have e5 := hr1.f_age
  have d6 := hr1.c_out
  have g1 := hr1.lt.1
  clear c1 f1
  rw [hs] at d1
  clear hs
  go_wp2
  refine bodyPost_ret (v := .agg #[.int .i64 C.kind, .int .i64 C.addr, .int .u8 C.data, .int .u8 S.out]) (by simp [results, Tryz.results51, go_sem, hc, hz]) rfl ⟨rfl, ?r, ?k⟩
  case r =>
    apply Rep.as
    · (repeat (with_reducible first | apply Rep.alloc | apply Rep.drewN | apply Rep.drew | apply Rep.set_bank | apply Rep.set_s0 | apply Rep.set_s1 | apply Rep.set_cause | apply Rep.set_left | apply Rep.set_down | apply Rep.set_a | apply Rep.set_x | apply Rep.set_pc | apply Rep.set_zero | apply Rep.set_carry | apply Rep.set_op | apply Rep.set_opd | apply Rep.set_phase | apply Rep.set_period | apply Rep.set_count | apply Rep.set_flag | apply Rep.set_age | apply Rep.set_window | apply Rep.set_windowed | apply Rep.set_key | apply Rep.set_out | apply Rep.set_inp | apply Rep.set_opn | apply Rep.set_place | apply Rep.set_rst | (apply Rep.other; case hb => exact hfr _ (by omega)) | exact hr | exact hr1 | exact hr2 | exact hr3))
    · rfl
  case k => (repeat (with_reducible first | apply Kept.alloc | apply Kept.drewN | apply Kept.drew | apply Kept.rg | apply Kept.p | apply Kept.q | refine Kept.setCell ?_ (Or.inr (Nat.le_refl _)) _ | refine Kept.setCell ?_ (Or.inr (by omega)) _ | exact k1 | exact k2 | exact k3 | exact Kept.refl _ _))

set_option maxRecDepth 100000 in
set_option maxHeartbeats 1000000 in
theorem Rruns_still_late {L : Lay} {st S : St} {C : Cy} {w : World} (hr : Rep L st w) (hiS : Inv S) (hbS : S.bank = 0 ∨ S.bank = 1)
    (hcall : Calls Tryz.prog 59 #[.pointer (some ⟨L.g, 0, none⟩)] ((w.setCell ⟨L.g, 155, none⟩ (.int .i64 0)).alloc (.cells #[.int .i64 0, .int .i64 0, .int .u8 0, .int .u8 0] 54)) fun e w' => e = .returned (.agg #[.int .i64 C.kind, .int .i64 C.addr, .int .u8 C.data, .int .u8 0]) ∧ Rep L S w' ∧ Kept L.own ((w.setCell ⟨L.g, 155, none⟩ (.int .i64 0)).alloc (.cells #[.int .i64 0, .int .i64 0, .int .u8 0, .int .u8 0] 54)) w')
    (hs : S.rst = 0) (hp : ¬ 0 < S.period) (hl : 250 < S.age + 1) :
    Calls Tryz.prog 51 #[.pointer (some ⟨L.g, 0, none⟩)] w fun e w' => e = .returned (.agg #[.int .i64 C.kind, .int .i64 C.addr, .int .u8 C.data, .int .u8 S.out]) ∧ Rep L (({ S with age := S.age + 1 } : St).reset 2) w' ∧ Kept L.own w w' := by
  have hfr := hr.fresh
  obtain ⟨l1, l2, l3⟩ := hr.lt
  obtain ⟨a0, a1⟩ := hiS.age
  obtain ⟨p0, p1⟩ := hiS.period
  obtain ⟨n0, n1⟩ := hiS.count
  have c1 := hr.c_rst
  have f1 := hr.f_rst
  have HC : Hid _ := hcall
  clear hcall
  go_enter Tryz.func51, Tryz.ntmps51
  go_wp2_with fail
  refine Calls.mono HC.out ?_
  rintro e w1 ⟨rfl, hr1, k1⟩
  obtain ⟨hc, hf⟩ := kcell k1 (b := w.heap.size) (by simp) (hfr _ (Nat.le_refl _))
  have hz : w.heap.size < w1.heap.size := by have := k1.size; simp at this; omega
  have hfr1 := hr1.fresh
  have k2 : Kept L.own w w1 := by
    refine Kept.trans ?_ k1
    (repeat (with_reducible first | apply Kept.alloc | apply Kept.drewN | apply Kept.drew | apply Kept.rg | apply Kept.p | apply Kept.q | refine Kept.setCell ?_ (Or.inr (Nat.le_refl _)) _ | refine Kept.setCell ?_ (Or.inr (by omega)) _ | exact k1 | exact k2 | exact k3 | exact Kept.refl _ _))
  have d1 := hr1.c_rst
  have d2 := hr1.c_period
  have d3 := hr1.c_count
  have e3 := hr1.f_count
  have d4 := hr1.c_flag
  have e4 := hr1.f_flag
  have d5 := hr1.c_age
  have e5 := hr1.f_age
  have d6 := hr1.c_out
  have g1 := hr1.lt.1
  clear c1 f1
  rw [hs] at d1
  clear hs
  go_wp2_with fail
  refine (Rreset_any (st := { S with age := S.age + 1 }) ?hrep 2 (Or.inr hbS)).mono ?_
  case hrep =>
    apply Rep.as
    · (repeat (with_reducible first | apply Rep.alloc | apply Rep.drewN | apply Rep.drew | apply Rep.set_bank | apply Rep.set_s0 | apply Rep.set_s1 | apply Rep.set_cause | apply Rep.set_left | apply Rep.set_down | apply Rep.set_a | apply Rep.set_x | apply Rep.set_pc | apply Rep.set_zero | apply Rep.set_carry | apply Rep.set_op | apply Rep.set_opd | apply Rep.set_phase | apply Rep.set_period | apply Rep.set_count | apply Rep.set_flag | apply Rep.set_age | apply Rep.set_window | apply Rep.set_windowed | apply Rep.set_key | apply Rep.set_out | apply Rep.set_inp | apply Rep.set_opn | apply Rep.set_place | apply Rep.set_rst | (apply Rep.other; case hb => exact hfr _ (by omega)) | exact hr | exact hr1 | exact hr2 | exact hr3))
    · rfl
  rintro e w3 ⟨rfl, hr2, k4⟩
  have kR := ((k1.rg _ _).alloc _).trans k4
  obtain ⟨hc2, hf2⟩ := kcell kR (b := w.heap.size) (by simp) (hfr _ (Nat.le_refl _))
  obtain ⟨hc3, hf3⟩ := kcell k4 (b := w1.heap.size) (by simp) (hfr1 _ (Nat.le_refl _))
  have hz2 : w.heap.size < w3.heap.size := by have := k4.size; simp at this; omega
  have hz3 : w1.heap.size < w3.heap.size := by have := k4.size; simp at this; omega
  have hzz : ¬ w.heap.size = w1.heap.size := by omega
  have k3 : Kept L.own w w3 := by
    refine Kept.trans ?_ k4
    (repeat (with_reducible first | apply Kept.alloc | apply Kept.drewN | apply Kept.drew | apply Kept.rg | apply Kept.p | apply Kept.q | refine Kept.setCell ?_ (Or.inr (Nat.le_refl _)) _ | refine Kept.setCell ?_ (Or.inr (by omega)) _ | exact k1 | exact k2 | exact k3 | exact Kept.refl _ _))
  have d7 := hr2.c_out
  rw [reset_out] at d7
  replace d7 : w3.cell? ⟨L.g, 151, none⟩ = some (.int .u8 S.out) := d7
  clear d1 d2 d3 e3 d4 e4 d5 e5 d6 hc hf k4
  go_wp2
  refine bodyPost_ret (v := .agg #[.int .i64 C.kind, .int .i64 C.addr, .int .u8 C.data, .int .u8 S.out]) (by simp [results, Tryz.results51, go_sem, hc2]) rfl ⟨rfl, ?r, ?k⟩
  case r =>
    apply Rep.as
    · (repeat (with_reducible first | apply Rep.alloc | apply Rep.drewN | apply Rep.drew | apply Rep.set_bank | apply Rep.set_s0 | apply Rep.set_s1 | apply Rep.set_cause | apply Rep.set_left | apply Rep.set_down | apply Rep.set_a | apply Rep.set_x | apply Rep.set_pc | apply Rep.set_zero | apply Rep.set_carry | apply Rep.set_op | apply Rep.set_opd | apply Rep.set_phase | apply Rep.set_period | apply Rep.set_count | apply Rep.set_flag | apply Rep.set_age | apply Rep.set_window | apply Rep.set_windowed | apply Rep.set_key | apply Rep.set_out | apply Rep.set_inp | apply Rep.set_opn | apply Rep.set_place | apply Rep.set_rst | (apply Rep.other; case hb => exact hfr _ (by omega)) | exact hr | exact hr1 | exact hr2 | exact hr3))
    · rfl
  case k => (repeat (with_reducible first | apply Kept.alloc | apply Kept.drewN | apply Kept.drew | apply Kept.rg | apply Kept.p | apply Kept.q | refine Kept.setCell ?_ (Or.inr (Nat.le_refl _)) _ | refine Kept.setCell ?_ (Or.inr (by omega)) _ | exact k1 | exact k2 | exact k3 | exact Kept.refl _ _))

set_option maxRecDepth 100000 in
set_option maxHeartbeats 1000000 in
theorem Rruns_zero_on {L : Lay} {st S : St} {C : Cy} {w : World} (hr : Rep L st w) (hiS : Inv S) (hbS : S.bank = 0 ∨ S.bank = 1)
    (hcall : Calls Tryz.prog 59 #[.pointer (some ⟨L.g, 0, none⟩)] ((w.setCell ⟨L.g, 155, none⟩ (.int .i64 0)).alloc (.cells #[.int .i64 0, .int .i64 0, .int .u8 0, .int .u8 0] 54)) fun e w' => e = .returned (.agg #[.int .i64 C.kind, .int .i64 C.addr, .int .u8 C.data, .int .u8 0]) ∧ Rep L S w' ∧ Kept L.own ((w.setCell ⟨L.g, 155, none⟩ (.int .i64 0)).alloc (.cells #[.int .i64 0, .int .i64 0, .int .u8 0, .int .u8 0] 54)) w')
    (hs : S.rst = 0) (hp : 0 < S.period) (hc0 : (S.count - 1 == 0) = true) (hl : ¬ 250 < S.age + 1) :
    Calls Tryz.prog 51 #[.pointer (some ⟨L.g, 0, none⟩)] w fun e w' => e = .returned (.agg #[.int .i64 C.kind, .int .i64 C.addr, .int .u8 C.data, .int .u8 S.out]) ∧ Rep L ({ S with count := S.period, flag := true, age := S.age + 1 }) w' ∧ Kept L.own w w' := by
  have hfr := hr.fresh
  obtain ⟨l1, l2, l3⟩ := hr.lt
  obtain ⟨a0, a1⟩ := hiS.age
  obtain ⟨p0, p1⟩ := hiS.period
  obtain ⟨n0, n1⟩ := hiS.count
  have c1 := hr.c_rst
  have f1 := hr.f_rst
  have HC : Hid _ := hcall
  clear hcall
  go_enter Tryz.func51, Tryz.ntmps51
  go_wp2_with fail
  refine Calls.mono HC.out ?_
  rintro e w1 ⟨rfl, hr1, k1⟩
  obtain ⟨hc, hf⟩ := kcell k1 (b := w.heap.size) (by simp) (hfr _ (Nat.le_refl _))
  have hz : w.heap.size < w1.heap.size := by have := k1.size; simp at this; omega
  have hfr1 := hr1.fresh
  have k2 : Kept L.own w w1 := by
    refine Kept.trans ?_ k1
    (repeat (with_reducible first | apply Kept.alloc | apply Kept.drewN | apply Kept.drew | apply Kept.rg | apply Kept.p | apply Kept.q | refine Kept.setCell ?_ (Or.inr (Nat.le_refl _)) _ | refine Kept.setCell ?_ (Or.inr (by omega)) _ | exact k1 | exact k2 | exact k3 | exact Kept.refl _ _))
  have d1 := hr1.c_rst
  have d2 := hr1.c_period
  have d3 := hr1.c_count
  have e3 := hr1.f_count
  have d4 := hr1.c_flag
  have e4 := hr1.f_flag
  have d5 := hr1.c_age
  have e5 := hr1.f_age
  have d6 := hr1.c_out
  have g1 := hr1.lt.1
  clear c1 f1
  rw [hs] at d1
  clear hs
  go_wp2
  refine bodyPost_ret (v := .agg #[.int .i64 C.kind, .int .i64 C.addr, .int .u8 C.data, .int .u8 S.out]) (by simp [results, Tryz.results51, go_sem, hc, hz]) rfl ⟨rfl, ?r, ?k⟩
  case r =>
    apply Rep.as
    · (repeat (with_reducible first | apply Rep.alloc | apply Rep.drewN | apply Rep.drew | apply Rep.set_bank | apply Rep.set_s0 | apply Rep.set_s1 | apply Rep.set_cause | apply Rep.set_left | apply Rep.set_down | apply Rep.set_a | apply Rep.set_x | apply Rep.set_pc | apply Rep.set_zero | apply Rep.set_carry | apply Rep.set_op | apply Rep.set_opd | apply Rep.set_phase | apply Rep.set_period | apply Rep.set_count | apply Rep.set_flag | apply Rep.set_age | apply Rep.set_window | apply Rep.set_windowed | apply Rep.set_key | apply Rep.set_out | apply Rep.set_inp | apply Rep.set_opn | apply Rep.set_place | apply Rep.set_rst | (apply Rep.other; case hb => exact hfr _ (by omega)) | exact hr | exact hr1 | exact hr2 | exact hr3))
    · rfl
  case k => (repeat (with_reducible first | apply Kept.alloc | apply Kept.drewN | apply Kept.drew | apply Kept.rg | apply Kept.p | apply Kept.q | refine Kept.setCell ?_ (Or.inr (Nat.le_refl _)) _ | refine Kept.setCell ?_ (Or.inr (by omega)) _ | exact k1 | exact k2 | exact k3 | exact Kept.refl _ _))

set_option maxRecDepth 100000 in
set_option maxHeartbeats 1000000 in
theorem Rruns_zero_late {L : Lay} {st S : St} {C : Cy} {w : World} (hr : Rep L st w) (hiS : Inv S) (hbS : S.bank = 0 ∨ S.bank = 1)
    (hcall : Calls Tryz.prog 59 #[.pointer (some ⟨L.g, 0, none⟩)] ((w.setCell ⟨L.g, 155, none⟩ (.int .i64 0)).alloc (.cells #[.int .i64 0, .int .i64 0, .int .u8 0, .int .u8 0] 54)) fun e w' => e = .returned (.agg #[.int .i64 C.kind, .int .i64 C.addr, .int .u8 C.data, .int .u8 0]) ∧ Rep L S w' ∧ Kept L.own ((w.setCell ⟨L.g, 155, none⟩ (.int .i64 0)).alloc (.cells #[.int .i64 0, .int .i64 0, .int .u8 0, .int .u8 0] 54)) w')
    (hs : S.rst = 0) (hp : 0 < S.period) (hc0 : (S.count - 1 == 0) = true) (hl : 250 < S.age + 1) :
    Calls Tryz.prog 51 #[.pointer (some ⟨L.g, 0, none⟩)] w fun e w' => e = .returned (.agg #[.int .i64 C.kind, .int .i64 C.addr, .int .u8 C.data, .int .u8 S.out]) ∧ Rep L (({ S with count := S.period, flag := true, age := S.age + 1 } : St).reset 2) w' ∧ Kept L.own w w' := by
  have hfr := hr.fresh
  obtain ⟨l1, l2, l3⟩ := hr.lt
  obtain ⟨a0, a1⟩ := hiS.age
  obtain ⟨p0, p1⟩ := hiS.period
  obtain ⟨n0, n1⟩ := hiS.count
  have c1 := hr.c_rst
  have f1 := hr.f_rst
  have HC : Hid _ := hcall
  clear hcall
  go_enter Tryz.func51, Tryz.ntmps51
  go_wp2_with fail
  refine Calls.mono HC.out ?_
  rintro e w1 ⟨rfl, hr1, k1⟩
  obtain ⟨hc, hf⟩ := kcell k1 (b := w.heap.size) (by simp) (hfr _ (Nat.le_refl _))
  have hz : w.heap.size < w1.heap.size := by have := k1.size; simp at this; omega
  have hfr1 := hr1.fresh
  have k2 : Kept L.own w w1 := by
    refine Kept.trans ?_ k1
    (repeat (with_reducible first | apply Kept.alloc | apply Kept.drewN | apply Kept.drew | apply Kept.rg | apply Kept.p | apply Kept.q | refine Kept.setCell ?_ (Or.inr (Nat.le_refl _)) _ | refine Kept.setCell ?_ (Or.inr (by omega)) _ | exact k1 | exact k2 | exact k3 | exact Kept.refl _ _))
  have d1 := hr1.c_rst
  have d2 := hr1.c_period
  have d3 := hr1.c_count
  have e3 := hr1.f_count
  have d4 := hr1.c_flag
  have e4 := hr1.f_flag
  have d5 := hr1.c_age
  have e5 := hr1.f_age
  have d6 := hr1.c_out
  have g1 := hr1.lt.1
  clear c1 f1
  rw [hs] at d1
  clear hs
  go_wp2_with fail
  refine (Rreset_any (st := { S with count := S.period, flag := true, age := S.age + 1 }) ?hrep 2 (Or.inr hbS)).mono ?_
  case hrep =>
    apply Rep.as
    · (repeat (with_reducible first | apply Rep.alloc | apply Rep.drewN | apply Rep.drew | apply Rep.set_bank | apply Rep.set_s0 | apply Rep.set_s1 | apply Rep.set_cause | apply Rep.set_left | apply Rep.set_down | apply Rep.set_a | apply Rep.set_x | apply Rep.set_pc | apply Rep.set_zero | apply Rep.set_carry | apply Rep.set_op | apply Rep.set_opd | apply Rep.set_phase | apply Rep.set_period | apply Rep.set_count | apply Rep.set_flag | apply Rep.set_age | apply Rep.set_window | apply Rep.set_windowed | apply Rep.set_key | apply Rep.set_out | apply Rep.set_inp | apply Rep.set_opn | apply Rep.set_place | apply Rep.set_rst | (apply Rep.other; case hb => exact hfr _ (by omega)) | exact hr | exact hr1 | exact hr2 | exact hr3))
    · rfl
  rintro e w3 ⟨rfl, hr2, k4⟩
  have kR := (((((k1.rg _ _).rg _ _).rg _ _).rg _ _).alloc _).trans k4
  obtain ⟨hc2, hf2⟩ := kcell kR (b := w.heap.size) (by simp) (hfr _ (Nat.le_refl _))
  obtain ⟨hc3, hf3⟩ := kcell k4 (b := w1.heap.size) (by simp) (hfr1 _ (Nat.le_refl _))
  have hz2 : w.heap.size < w3.heap.size := by have := k4.size; simp at this; omega
  have hz3 : w1.heap.size < w3.heap.size := by have := k4.size; simp at this; omega
  have hzz : ¬ w.heap.size = w1.heap.size := by omega
  have k3 : Kept L.own w w3 := by
    refine Kept.trans ?_ k4
    (repeat (with_reducible first | apply Kept.alloc | apply Kept.drewN | apply Kept.drew | apply Kept.rg | apply Kept.p | apply Kept.q | refine Kept.setCell ?_ (Or.inr (Nat.le_refl _)) _ | refine Kept.setCell ?_ (Or.inr (by omega)) _ | exact k1 | exact k2 | exact k3 | exact Kept.refl _ _))
  have d7 := hr2.c_out
  rw [reset_out] at d7
  replace d7 : w3.cell? ⟨L.g, 151, none⟩ = some (.int .u8 S.out) := d7
  clear d1 d2 d3 e3 d4 e4 d5 e5 d6 hc hf k4
  go_wp2
  refine bodyPost_ret (v := .agg #[.int .i64 C.kind, .int .i64 C.addr, .int .u8 C.data, .int .u8 S.out]) (by simp [results, Tryz.results51, go_sem, hc2]) rfl ⟨rfl, ?r, ?k⟩
  case r =>
    apply Rep.as
    · (repeat (with_reducible first | apply Rep.alloc | apply Rep.drewN | apply Rep.drew | apply Rep.set_bank | apply Rep.set_s0 | apply Rep.set_s1 | apply Rep.set_cause | apply Rep.set_left | apply Rep.set_down | apply Rep.set_a | apply Rep.set_x | apply Rep.set_pc | apply Rep.set_zero | apply Rep.set_carry | apply Rep.set_op | apply Rep.set_opd | apply Rep.set_phase | apply Rep.set_period | apply Rep.set_count | apply Rep.set_flag | apply Rep.set_age | apply Rep.set_window | apply Rep.set_windowed | apply Rep.set_key | apply Rep.set_out | apply Rep.set_inp | apply Rep.set_opn | apply Rep.set_place | apply Rep.set_rst | (apply Rep.other; case hb => exact hfr _ (by omega)) | exact hr | exact hr1 | exact hr2 | exact hr3))
    · rfl
  case k => (repeat (with_reducible first | apply Kept.alloc | apply Kept.drewN | apply Kept.drew | apply Kept.rg | apply Kept.p | apply Kept.q | refine Kept.setCell ?_ (Or.inr (Nat.le_refl _)) _ | refine Kept.setCell ?_ (Or.inr (by omega)) _ | exact k1 | exact k2 | exact k3 | exact Kept.refl _ _))

set_option maxRecDepth 100000 in
set_option maxHeartbeats 1000000 in
theorem Rruns_down_on {L : Lay} {st S : St} {C : Cy} {w : World} (hr : Rep L st w) (hiS : Inv S) (hbS : S.bank = 0 ∨ S.bank = 1)
    (hcall : Calls Tryz.prog 59 #[.pointer (some ⟨L.g, 0, none⟩)] ((w.setCell ⟨L.g, 155, none⟩ (.int .i64 0)).alloc (.cells #[.int .i64 0, .int .i64 0, .int .u8 0, .int .u8 0] 54)) fun e w' => e = .returned (.agg #[.int .i64 C.kind, .int .i64 C.addr, .int .u8 C.data, .int .u8 0]) ∧ Rep L S w' ∧ Kept L.own ((w.setCell ⟨L.g, 155, none⟩ (.int .i64 0)).alloc (.cells #[.int .i64 0, .int .i64 0, .int .u8 0, .int .u8 0] 54)) w')
    (hs : S.rst = 0) (hp : 0 < S.period) (hc0 : (S.count - 1 == 0) = false) (hl : ¬ 250 < S.age + 1) :
    Calls Tryz.prog 51 #[.pointer (some ⟨L.g, 0, none⟩)] w fun e w' => e = .returned (.agg #[.int .i64 C.kind, .int .i64 C.addr, .int .u8 C.data, .int .u8 S.out]) ∧ Rep L ({ S with count := S.count - 1, age := S.age + 1 }) w' ∧ Kept L.own w w' := by
  have hfr := hr.fresh
  obtain ⟨l1, l2, l3⟩ := hr.lt
  obtain ⟨a0, a1⟩ := hiS.age
  obtain ⟨p0, p1⟩ := hiS.period
  obtain ⟨n0, n1⟩ := hiS.count
  have c1 := hr.c_rst
  have f1 := hr.f_rst
  have HC : Hid _ := hcall
  clear hcall
  go_enter Tryz.func51, Tryz.ntmps51
  go_wp2_with fail
  refine Calls.mono HC.out ?_
  rintro e w1 ⟨rfl, hr1, k1⟩
  obtain ⟨hc, hf⟩ := kcell k1 (b := w.heap.size) (by simp) (hfr _ (Nat.le_refl _))
  have hz : w.heap.size < w1.heap.size := by have := k1.size; simp at this; omega
  have hfr1 := hr1.fresh
  have k2 : Kept L.own w w1 := by
    refine Kept.trans ?_ k1
    (repeat (with_reducible first | apply Kept.alloc | apply Kept.drewN | apply Kept.drew | apply Kept.rg | apply Kept.p | apply Kept.q | refine Kept.setCell ?_ (Or.inr (Nat.le_refl _)) _ | refine Kept.setCell ?_ (Or.inr (by omega)) _ | exact k1 | exact k2 | exact k3 | exact Kept.refl _ _))
  have d1 := hr1.c_rst
  have d2 := hr1.c_period
  have d3 := hr1.c_count
  have e3 := hr1.f_count
  have d4 := hr1.c_flag
  have e4 := hr1.f_flag
  have d5 := hr1.c_age
  have e5 := hr1.f_age
  have d6 := hr1.c_out
  have g1 := hr1.lt.1
  clear c1 f1
  rw [hs] at d1
  clear hs
  go_wp2
  refine bodyPost_ret (v := .agg #[.int .i64 C.kind, .int .i64 C.addr, .int .u8 C.data, .int .u8 S.out]) (by simp [results, Tryz.results51, go_sem, hc, hz]) rfl ⟨rfl, ?r, ?k⟩
  case r =>
    apply Rep.as
    · (repeat (with_reducible first | apply Rep.alloc | apply Rep.drewN | apply Rep.drew | apply Rep.set_bank | apply Rep.set_s0 | apply Rep.set_s1 | apply Rep.set_cause | apply Rep.set_left | apply Rep.set_down | apply Rep.set_a | apply Rep.set_x | apply Rep.set_pc | apply Rep.set_zero | apply Rep.set_carry | apply Rep.set_op | apply Rep.set_opd | apply Rep.set_phase | apply Rep.set_period | apply Rep.set_count | apply Rep.set_flag | apply Rep.set_age | apply Rep.set_window | apply Rep.set_windowed | apply Rep.set_key | apply Rep.set_out | apply Rep.set_inp | apply Rep.set_opn | apply Rep.set_place | apply Rep.set_rst | (apply Rep.other; case hb => exact hfr _ (by omega)) | exact hr | exact hr1 | exact hr2 | exact hr3))
    · rfl
  case k => (repeat (with_reducible first | apply Kept.alloc | apply Kept.drewN | apply Kept.drew | apply Kept.rg | apply Kept.p | apply Kept.q | refine Kept.setCell ?_ (Or.inr (Nat.le_refl _)) _ | refine Kept.setCell ?_ (Or.inr (by omega)) _ | exact k1 | exact k2 | exact k3 | exact Kept.refl _ _))

set_option maxRecDepth 100000 in
set_option maxHeartbeats 1000000 in
theorem Rruns_down_late {L : Lay} {st S : St} {C : Cy} {w : World} (hr : Rep L st w) (hiS : Inv S) (hbS : S.bank = 0 ∨ S.bank = 1)
    (hcall : Calls Tryz.prog 59 #[.pointer (some ⟨L.g, 0, none⟩)] ((w.setCell ⟨L.g, 155, none⟩ (.int .i64 0)).alloc (.cells #[.int .i64 0, .int .i64 0, .int .u8 0, .int .u8 0] 54)) fun e w' => e = .returned (.agg #[.int .i64 C.kind, .int .i64 C.addr, .int .u8 C.data, .int .u8 0]) ∧ Rep L S w' ∧ Kept L.own ((w.setCell ⟨L.g, 155, none⟩ (.int .i64 0)).alloc (.cells #[.int .i64 0, .int .i64 0, .int .u8 0, .int .u8 0] 54)) w')
    (hs : S.rst = 0) (hp : 0 < S.period) (hc0 : (S.count - 1 == 0) = false) (hl : 250 < S.age + 1) :
    Calls Tryz.prog 51 #[.pointer (some ⟨L.g, 0, none⟩)] w fun e w' => e = .returned (.agg #[.int .i64 C.kind, .int .i64 C.addr, .int .u8 C.data, .int .u8 S.out]) ∧ Rep L (({ S with count := S.count - 1, age := S.age + 1 } : St).reset 2) w' ∧ Kept L.own w w' := by
  have hfr := hr.fresh
  obtain ⟨l1, l2, l3⟩ := hr.lt
  obtain ⟨a0, a1⟩ := hiS.age
  obtain ⟨p0, p1⟩ := hiS.period
  obtain ⟨n0, n1⟩ := hiS.count
  have c1 := hr.c_rst
  have f1 := hr.f_rst
  have HC : Hid _ := hcall
  clear hcall
  go_enter Tryz.func51, Tryz.ntmps51
  go_wp2_with fail
  refine Calls.mono HC.out ?_
  rintro e w1 ⟨rfl, hr1, k1⟩
  obtain ⟨hc, hf⟩ := kcell k1 (b := w.heap.size) (by simp) (hfr _ (Nat.le_refl _))
  have hz : w.heap.size < w1.heap.size := by have := k1.size; simp at this; omega
  have hfr1 := hr1.fresh
  have k2 : Kept L.own w w1 := by
    refine Kept.trans ?_ k1
    (repeat (with_reducible first | apply Kept.alloc | apply Kept.drewN | apply Kept.drew | apply Kept.rg | apply Kept.p | apply Kept.q | refine Kept.setCell ?_ (Or.inr (Nat.le_refl _)) _ | refine Kept.setCell ?_ (Or.inr (by omega)) _ | exact k1 | exact k2 | exact k3 | exact Kept.refl _ _))
  have d1 := hr1.c_rst
  have d2 := hr1.c_period
  have d3 := hr1.c_count
  have e3 := hr1.f_count
  have d4 := hr1.c_flag
  have e4 := hr1.f_flag
  have d5 := hr1.c_age
  have e5 := hr1.f_age
  have d6 := hr1.c_out
  have g1 := hr1.lt.1
  clear c1 f1
  rw [hs] at d1
  clear hs
  go_wp2_with fail
  refine (Rreset_any (st := { S with count := S.count - 1, age := S.age + 1 }) ?hrep 2 (Or.inr hbS)).mono ?_
  case hrep =>
    apply Rep.as
    · (repeat (with_reducible first | apply Rep.alloc | apply Rep.drewN | apply Rep.drew | apply Rep.set_bank | apply Rep.set_s0 | apply Rep.set_s1 | apply Rep.set_cause | apply Rep.set_left | apply Rep.set_down | apply Rep.set_a | apply Rep.set_x | apply Rep.set_pc | apply Rep.set_zero | apply Rep.set_carry | apply Rep.set_op | apply Rep.set_opd | apply Rep.set_phase | apply Rep.set_period | apply Rep.set_count | apply Rep.set_flag | apply Rep.set_age | apply Rep.set_window | apply Rep.set_windowed | apply Rep.set_key | apply Rep.set_out | apply Rep.set_inp | apply Rep.set_opn | apply Rep.set_place | apply Rep.set_rst | (apply Rep.other; case hb => exact hfr _ (by omega)) | exact hr | exact hr1 | exact hr2 | exact hr3))
    · rfl
  rintro e w3 ⟨rfl, hr2, k4⟩
  have kR := (((k1.rg _ _).rg _ _).alloc _).trans k4
  obtain ⟨hc2, hf2⟩ := kcell kR (b := w.heap.size) (by simp) (hfr _ (Nat.le_refl _))
  obtain ⟨hc3, hf3⟩ := kcell k4 (b := w1.heap.size) (by simp) (hfr1 _ (Nat.le_refl _))
  have hz2 : w.heap.size < w3.heap.size := by have := k4.size; simp at this; omega
  have hz3 : w1.heap.size < w3.heap.size := by have := k4.size; simp at this; omega
  have hzz : ¬ w.heap.size = w1.heap.size := by omega
  have k3 : Kept L.own w w3 := by
    refine Kept.trans ?_ k4
    (repeat (with_reducible first | apply Kept.alloc | apply Kept.drewN | apply Kept.drew | apply Kept.rg | apply Kept.p | apply Kept.q | refine Kept.setCell ?_ (Or.inr (Nat.le_refl _)) _ | refine Kept.setCell ?_ (Or.inr (by omega)) _ | exact k1 | exact k2 | exact k3 | exact Kept.refl _ _))
  have d7 := hr2.c_out
  rw [reset_out] at d7
  replace d7 : w3.cell? ⟨L.g, 151, none⟩ = some (.int .u8 S.out) := d7
  clear d1 d2 d3 e3 d4 e4 d5 e5 d6 hc hf k4
  go_wp2
  refine bodyPost_ret (v := .agg #[.int .i64 C.kind, .int .i64 C.addr, .int .u8 C.data, .int .u8 S.out]) (by simp [results, Tryz.results51, go_sem, hc2]) rfl ⟨rfl, ?r, ?k⟩
  case r =>
    apply Rep.as
    · (repeat (with_reducible first | apply Rep.alloc | apply Rep.drewN | apply Rep.drew | apply Rep.set_bank | apply Rep.set_s0 | apply Rep.set_s1 | apply Rep.set_cause | apply Rep.set_left | apply Rep.set_down | apply Rep.set_a | apply Rep.set_x | apply Rep.set_pc | apply Rep.set_zero | apply Rep.set_carry | apply Rep.set_op | apply Rep.set_opd | apply Rep.set_phase | apply Rep.set_period | apply Rep.set_count | apply Rep.set_flag | apply Rep.set_age | apply Rep.set_window | apply Rep.set_windowed | apply Rep.set_key | apply Rep.set_out | apply Rep.set_inp | apply Rep.set_opn | apply Rep.set_place | apply Rep.set_rst | (apply Rep.other; case hb => exact hfr _ (by omega)) | exact hr | exact hr1 | exact hr2 | exact hr3))
    · rfl
  case k => (repeat (with_reducible first | apply Kept.alloc | apply Kept.drewN | apply Kept.drew | apply Kept.rg | apply Kept.p | apply Kept.q | refine Kept.setCell ?_ (Or.inr (Nat.le_refl _)) _ | refine Kept.setCell ?_ (Or.inr (by omega)) _ | exact k1 | exact k2 | exact k3 | exact Kept.refl _ _))


theorem runs_eq (st S : St) (C : Cy) (hW : ({ st with rst := 0 } : St).works = (S, C)) (X : St) (hX : (if S.rst = 0 then S.ticks.ages else S) = X) (hout : X.out = S.out) : st.runs = (X, { C with out := S.out }) := by
  unfold St.runs
  simp only [hW, hX, hout]

theorem Rruns_any {L : Lay} {st : St} {w : World} (hr : Rep L st w) (hi : Inv st) (hb : 0 ≤ st.bank) (hl : st.left = 0) :
    Calls Tryz.prog 51 #[.pointer (some ⟨L.g, 0, none⟩)] w fun e w' => e = .returned (.agg #[.int .i64 st.runs.2.kind, .int .i64 st.runs.2.addr, .int .u8 st.runs.2.data, .int .u8 st.runs.2.out]) ∧ Rep L st.runs.1 w' ∧ Kept L.own w w' := by
  have hi0 : Inv { st with rst := 0 } := { hi with }
  have hcall := Rworks_any (st := { st with rst := 0 }) ((hr.set_rst 0).alloc (.cells #[.int .i64 0, .int .i64 0, .int .u8 0, .int .u8 0] 54)) hi0 hb
  have hiS := hi0.works hb
  have hbS := works_bank { st with rst := 0 }
  have hb2 : st.bank = 0 ∨ st.bank = 1 := by have := hi.bank; omega
  generalize hW : ({ st with rst := 0 } : St).works = W at hcall hiS hbS
  obtain ⟨S, C⟩ := W
  replace hbS : S.bank = 0 ∨ S.bank = 1 := by
    have : S.bank = st.bank := hbS
    rw [this]; exact hb2
  by_cases hs : S.rst = 0
  · by_cases hp : 0 < S.period
    · by_cases hc0 : S.count - 1 = 0
      · by_cases hlt : 250 < S.age + 1
        · have e := runs_eq st S C hW (({ S with count := S.period, flag := true, age := S.age + 1 } : St).reset 2) (by rw [if_pos hs]; simp only [St.ticks, hp, hc0, if_true]; simp only [St.ages, hlt, if_true]) (by rw [reset_out])
          rw [e]
          exact Rruns_zero_late hr hiS hbS hcall hs hp (by simpa using hc0) hlt
        · have e := runs_eq st S C hW ({ S with count := S.period, flag := true, age := S.age + 1 } : St) (by rw [if_pos hs]; simp only [St.ticks, hp, hc0, if_true]; simp only [St.ages, hlt, if_false]) rfl
          rw [e]
          exact Rruns_zero_on hr hiS hbS hcall hs hp (by simpa using hc0) hlt
      · by_cases hlt : 250 < S.age + 1
        · have e := runs_eq st S C hW (({ S with count := S.count - 1, age := S.age + 1 } : St).reset 2) (by rw [if_pos hs]; simp only [St.ticks, hp, hc0, if_true, if_false]; simp only [St.ages, hlt, if_true]) (by rw [reset_out])
          rw [e]
          exact Rruns_down_late hr hiS hbS hcall hs hp (by simpa using hc0) hlt
        · have e := runs_eq st S C hW ({ S with count := S.count - 1, age := S.age + 1 } : St) (by rw [if_pos hs]; simp only [St.ticks, hp, hc0, if_true, if_false]; simp only [St.ages, hlt, if_false]) rfl
          rw [e]
          exact Rruns_down_on hr hiS hbS hcall hs hp (by simpa using hc0) hlt
    · by_cases hlt : 250 < S.age + 1
      · have e := runs_eq st S C hW (({ S with age := S.age + 1 } : St).reset 2) (by rw [if_pos hs]; simp only [St.ticks, hp, if_false]; simp only [St.ages, hlt, if_true]) (by rw [reset_out])
        rw [e]
        exact Rruns_still_late hr hiS hbS hcall hs hp hlt
      · have e := runs_eq st S C hW ({ S with age := S.age + 1 } : St) (by rw [if_pos hs]; simp only [St.ticks, hp, if_false]; simp only [St.ages, hlt, if_false]) rfl
        rw [e]
        exact Rruns_still_on hr hiS hbS hcall hs hp hlt
  · have e := runs_eq st S C hW S (by rw [if_neg hs]) rfl
    rw [e]
    exact Rruns_reset hr hiS hbS hcall (by simpa using hs)


end Go.Proofs.YtikdbpphbdbdnaaGreat
