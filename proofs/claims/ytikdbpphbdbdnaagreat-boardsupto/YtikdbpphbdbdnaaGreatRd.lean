/- Of several texts, one behind the other. -/
import Derived.Test.YtikdbpphbdbdnaaGreatRc
import Derived.Deep.RegionHeld3
/- The document's board: the boot. -/
namespace Go.Proofs.YtikdbpphbdbdnaaGreat
open Go.RowKit
set_option linter.unusedVariables false

set_option maxRecDepth 100000 in
set_option maxHeartbeats 2000000 in
theorem Rboot_new {L : Lay} {st : St} {w : World} (hr : Rep L st w) (h0 : ∀ i, 0 ≤ st.b0 i ∧ st.b0 i ≤ 255) (h1 : ∀ i, 0 ≤ st.b1 i ∧ st.b1 i ≤ 255) (ha : anewB (bankS st.b0) (bankS st.b1) st.s0 st.s1 = true) :
    Calls Tryz.prog 50 #[.pointer (some ⟨L.g, 0, none⟩)] w fun e w' => e = .returned (.tuple #[]) ∧ Rep L st.boot w' ∧ Kept L.own w w' := by
  have HF : Hid (st.boot = { st with s0 := 0, s1 := 0, bank := chooseB (bankS st.b0) (bankS st.b1) st.s0 st.s1, a := 0, x := 0, pc := 130, zero := false, carry := false, phase := 0, period := 0, count := 0, flag := false, age := 0, window := 0, windowed := false, key := false, out := 0, opn := false, place := 0 }) := by simp [Hid, St.boot, ha]
  have HA : Hid (anewB (bankS st.b0) (bankS st.b1) st.s0 st.s1 = true) := ha
  clear ha
  have c1 := hr.c_p
  have c2 := hr.c_q
  have c3 := hr.c_s0
  have c4 := hr.c_s1
  have hfr := hr.fresh
  have l1 := hr.lt.1
  obtain ⟨s0, es0⟩ : ∃ s0, s0 = bankS st.b0 := ⟨_, rfl⟩
  obtain ⟨s1, es1⟩ : ∃ s1, s1 = bankS st.b1 := ⟨_, rfl⟩
  rw [← es0, ← es1] at HF HA
  have hm0 : s0.size ≤ maxLen := by rw [es0, bankS_size]; unfold maxLen; omega
  have hm1 : s1.size ≤ maxLen := by rw [es1, bankS_size]; unfold maxLen; omega
  have hS : ∀ W : World, Below w.drew.heap.size w.drew W → W.cell? ⟨L.g, 128, none⟩ = some (.slice (some ⟨L.p, 0, none⟩) 64 L.cp) ∧ W.cell? ⟨L.g, 129, none⟩ = some (.slice (some ⟨L.q, 0, none⟩) 64 L.cq) ∧ W.cell? ⟨L.g, 131, none⟩ = some (.int .i64 st.s0) ∧ W.cell? ⟨L.g, 132, none⟩ = some (.int .i64 st.s1) ∧ (convert 72 9 (.slice (some ⟨L.p, 0, none⟩) 64 L.cp)).run Tryz.prog W = .ok (.string s0) W ∧ (convert 72 9 (.slice (some ⟨L.q, 0, none⟩) 64 L.cq)).run Tryz.prog W = .ok (.string s1) W := fun W hW => by
    have hrW : Rep L st W := (hr.drew).below hW
    exact ⟨hrW.c_p, hrW.c_q, hrW.c_s0, hrW.c_s1, by rw [es0]; exact run_bank W L.p L.cp st.b0 h0 hrW.r0, by rw [es1]; exact run_bank W L.q L.cq st.b1 h1 hrW.r1⟩
  clear es0 es1
  have HC : Hid _ := rChoose_any s0 s1 st.s0 st.s1 w.drew hm0 hm1
  go_enter Tryz.func50, Tryz.ntmps50
  go_wp2
  go_region_held3 (fun W => W.cell? ⟨L.g, 128, none⟩ = some (.slice (some ⟨L.p, 0, none⟩) 64 L.cp) ∧ W.cell? ⟨L.g, 129, none⟩ = some (.slice (some ⟨L.q, 0, none⟩) 64 L.cq) ∧ W.cell? ⟨L.g, 131, none⟩ = some (.int .i64 st.s0) ∧ W.cell? ⟨L.g, 132, none⟩ = some (.int .i64 st.s1) ∧ (convert 72 9 (.slice (some ⟨L.p, 0, none⟩) 64 L.cp)).run Tryz.prog W = .ok (.string s0) W ∧ (convert 72 9 (.slice (some ⟨L.q, 0, none⟩) 64 L.cq)).run Tryz.prog W = .ok (.string s1) W) (first | exact hS _ (by assumption) | exact hS _ (Below.refl _ _)) (first | (go_at_call 26; refine Calls.mono HC.out ?_; rintro e w1 ⟨rfl, b1⟩))
  rw [HA.out]
  have hr1 : Rep L st w1 := (hr.drew).below b1
  have k1 : Kept L.own w w1 := ((Kept.refl L.own w).drew).trans (Kept.below b1)
  clear hS c1 c2 c3 c4
  have c_s0 := hr1.c_s0
  have f_s0 := hr1.f_s0
  have c_s1 := hr1.c_s1
  have f_s1 := hr1.f_s1
  have c_bank := hr1.c_bank
  have f_bank := hr1.f_bank
  have c_a := hr1.c_a
  have f_a := hr1.f_a
  have c_x := hr1.c_x
  have f_x := hr1.f_x
  have c_pc := hr1.c_pc
  have f_pc := hr1.f_pc
  have c_zero := hr1.c_zero
  have f_zero := hr1.f_zero
  have c_carry := hr1.c_carry
  have f_carry := hr1.f_carry
  have c_phase := hr1.c_phase
  have f_phase := hr1.f_phase
  have c_period := hr1.c_period
  have f_period := hr1.f_period
  have c_count := hr1.c_count
  have f_count := hr1.f_count
  have c_flag := hr1.c_flag
  have f_flag := hr1.f_flag
  have c_age := hr1.c_age
  have f_age := hr1.f_age
  have c_window := hr1.c_window
  have f_window := hr1.f_window
  have c_windowed := hr1.c_windowed
  have f_windowed := hr1.f_windowed
  have c_key := hr1.c_key
  have f_key := hr1.f_key
  have c_out := hr1.c_out
  have f_out := hr1.f_out
  have c_opn := hr1.c_opn
  have f_opn := hr1.f_opn
  have c_place := hr1.c_place
  have f_place := hr1.f_place
  go_wp2
  (first | go_end0 | refine bodyPost_ret (results_none rfl _ _ _) rfl ?_)
  refine ⟨rfl, ?r, ?k⟩
  case r =>
    rw [HF.out]
    apply Rep.as
    · (repeat (with_reducible first | apply Rep.alloc | apply Rep.drewN | apply Rep.drew | apply Rep.set_bank | apply Rep.set_s0 | apply Rep.set_s1 | apply Rep.set_cause | apply Rep.set_left | apply Rep.set_down | apply Rep.set_a | apply Rep.set_x | apply Rep.set_pc | apply Rep.set_zero | apply Rep.set_carry | apply Rep.set_op | apply Rep.set_opd | apply Rep.set_phase | apply Rep.set_period | apply Rep.set_count | apply Rep.set_flag | apply Rep.set_age | apply Rep.set_window | apply Rep.set_windowed | apply Rep.set_key | apply Rep.set_out | apply Rep.set_inp | apply Rep.set_opn | apply Rep.set_place | apply Rep.set_rst | (apply Rep.other; case hb => exact hfr _ (by omega)) | exact hr | exact hr1 | exact hr2 | exact hr3))
    · rfl
  case k => (repeat (with_reducible first | apply Kept.alloc | apply Kept.drewN | apply Kept.drew | apply Kept.rg | apply Kept.p | apply Kept.q | refine Kept.setCell ?_ (Or.inr (Nat.le_refl _)) _ | refine Kept.setCell ?_ (Or.inr (by omega)) _ | exact k1 | exact k2 | exact k3 | exact Kept.refl _ _))

set_option maxRecDepth 100000 in
set_option maxHeartbeats 2000000 in
theorem Rboot_old {L : Lay} {st : St} {w : World} (hr : Rep L st w) (h0 : ∀ i, 0 ≤ st.b0 i ∧ st.b0 i ≤ 255) (h1 : ∀ i, 0 ≤ st.b1 i ∧ st.b1 i ≤ 255) (ha : anewB (bankS st.b0) (bankS st.b1) st.s0 st.s1 = false) :
    Calls Tryz.prog 50 #[.pointer (some ⟨L.g, 0, none⟩)] w fun e w' => e = .returned (.tuple #[]) ∧ Rep L st.boot w' ∧ Kept L.own w w' := by
  have HF : Hid (st.boot = { st with bank := chooseB (bankS st.b0) (bankS st.b1) st.s0 st.s1, a := 0, x := 0, pc := 130, zero := false, carry := false, phase := 0, period := 0, count := 0, flag := false, age := 0, window := 0, windowed := false, key := false, out := 0, opn := false, place := 0 }) := by simp [Hid, St.boot, ha]
  have HA : Hid (anewB (bankS st.b0) (bankS st.b1) st.s0 st.s1 = false) := ha
  clear ha
  have c1 := hr.c_p
  have c2 := hr.c_q
  have c3 := hr.c_s0
  have c4 := hr.c_s1
  have hfr := hr.fresh
  have l1 := hr.lt.1
  obtain ⟨s0, es0⟩ : ∃ s0, s0 = bankS st.b0 := ⟨_, rfl⟩
  obtain ⟨s1, es1⟩ : ∃ s1, s1 = bankS st.b1 := ⟨_, rfl⟩
  rw [← es0, ← es1] at HF HA
  have hm0 : s0.size ≤ maxLen := by rw [es0, bankS_size]; unfold maxLen; omega
  have hm1 : s1.size ≤ maxLen := by rw [es1, bankS_size]; unfold maxLen; omega
  have hS : ∀ W : World, Below w.drew.heap.size w.drew W → W.cell? ⟨L.g, 128, none⟩ = some (.slice (some ⟨L.p, 0, none⟩) 64 L.cp) ∧ W.cell? ⟨L.g, 129, none⟩ = some (.slice (some ⟨L.q, 0, none⟩) 64 L.cq) ∧ W.cell? ⟨L.g, 131, none⟩ = some (.int .i64 st.s0) ∧ W.cell? ⟨L.g, 132, none⟩ = some (.int .i64 st.s1) ∧ (convert 72 9 (.slice (some ⟨L.p, 0, none⟩) 64 L.cp)).run Tryz.prog W = .ok (.string s0) W ∧ (convert 72 9 (.slice (some ⟨L.q, 0, none⟩) 64 L.cq)).run Tryz.prog W = .ok (.string s1) W := fun W hW => by
    have hrW : Rep L st W := (hr.drew).below hW
    exact ⟨hrW.c_p, hrW.c_q, hrW.c_s0, hrW.c_s1, by rw [es0]; exact run_bank W L.p L.cp st.b0 h0 hrW.r0, by rw [es1]; exact run_bank W L.q L.cq st.b1 h1 hrW.r1⟩
  clear es0 es1
  have HC : Hid _ := rChoose_any s0 s1 st.s0 st.s1 w.drew hm0 hm1
  go_enter Tryz.func50, Tryz.ntmps50
  go_wp2
  go_region_held3 (fun W => W.cell? ⟨L.g, 128, none⟩ = some (.slice (some ⟨L.p, 0, none⟩) 64 L.cp) ∧ W.cell? ⟨L.g, 129, none⟩ = some (.slice (some ⟨L.q, 0, none⟩) 64 L.cq) ∧ W.cell? ⟨L.g, 131, none⟩ = some (.int .i64 st.s0) ∧ W.cell? ⟨L.g, 132, none⟩ = some (.int .i64 st.s1) ∧ (convert 72 9 (.slice (some ⟨L.p, 0, none⟩) 64 L.cp)).run Tryz.prog W = .ok (.string s0) W ∧ (convert 72 9 (.slice (some ⟨L.q, 0, none⟩) 64 L.cq)).run Tryz.prog W = .ok (.string s1) W) (first | exact hS _ (by assumption) | exact hS _ (Below.refl _ _)) (first | (go_at_call 26; refine Calls.mono HC.out ?_; rintro e w1 ⟨rfl, b1⟩))
  rw [HA.out]
  have hr1 : Rep L st w1 := (hr.drew).below b1
  have k1 : Kept L.own w w1 := ((Kept.refl L.own w).drew).trans (Kept.below b1)
  clear hS c1 c2 c3 c4
  have c_bank := hr1.c_bank
  have f_bank := hr1.f_bank
  have c_a := hr1.c_a
  have f_a := hr1.f_a
  have c_x := hr1.c_x
  have f_x := hr1.f_x
  have c_pc := hr1.c_pc
  have f_pc := hr1.f_pc
  have c_zero := hr1.c_zero
  have f_zero := hr1.f_zero
  have c_carry := hr1.c_carry
  have f_carry := hr1.f_carry
  have c_phase := hr1.c_phase
  have f_phase := hr1.f_phase
  have c_period := hr1.c_period
  have f_period := hr1.f_period
  have c_count := hr1.c_count
  have f_count := hr1.f_count
  have c_flag := hr1.c_flag
  have f_flag := hr1.f_flag
  have c_age := hr1.c_age
  have f_age := hr1.f_age
  have c_window := hr1.c_window
  have f_window := hr1.f_window
  have c_windowed := hr1.c_windowed
  have f_windowed := hr1.f_windowed
  have c_key := hr1.c_key
  have f_key := hr1.f_key
  have c_out := hr1.c_out
  have f_out := hr1.f_out
  have c_opn := hr1.c_opn
  have f_opn := hr1.f_opn
  have c_place := hr1.c_place
  have f_place := hr1.f_place
  go_wp2
  (first | go_end0 | refine bodyPost_ret (results_none rfl _ _ _) rfl ?_)
  refine ⟨rfl, ?r, ?k⟩
  case r =>
    rw [HF.out]
    apply Rep.as
    · (repeat (with_reducible first | apply Rep.alloc | apply Rep.drewN | apply Rep.drew | apply Rep.set_bank | apply Rep.set_s0 | apply Rep.set_s1 | apply Rep.set_cause | apply Rep.set_left | apply Rep.set_down | apply Rep.set_a | apply Rep.set_x | apply Rep.set_pc | apply Rep.set_zero | apply Rep.set_carry | apply Rep.set_op | apply Rep.set_opd | apply Rep.set_phase | apply Rep.set_period | apply Rep.set_count | apply Rep.set_flag | apply Rep.set_age | apply Rep.set_window | apply Rep.set_windowed | apply Rep.set_key | apply Rep.set_out | apply Rep.set_inp | apply Rep.set_opn | apply Rep.set_place | apply Rep.set_rst | (apply Rep.other; case hb => exact hfr _ (by omega)) | exact hr | exact hr1 | exact hr2 | exact hr3))
    · rfl
  case k => (repeat (with_reducible first | apply Kept.alloc | apply Kept.drewN | apply Kept.drew | apply Kept.rg | apply Kept.p | apply Kept.q | refine Kept.setCell ?_ (Or.inr (Nat.le_refl _)) _ | refine Kept.setCell ?_ (Or.inr (by omega)) _ | exact k1 | exact k2 | exact k3 | exact Kept.refl _ _))

theorem Rboot_any {L : Lay} {st : St} {w : World} (hr : Rep L st w) (h0 : ∀ i, 0 ≤ st.b0 i ∧ st.b0 i ≤ 255) (h1 : ∀ i, 0 ≤ st.b1 i ∧ st.b1 i ≤ 255) :
    Calls Tryz.prog 50 #[.pointer (some ⟨L.g, 0, none⟩)] w fun e w' => e = .returned (.tuple #[]) ∧ Rep L st.boot w' ∧ Kept L.own w w' := by
  cases ha : anewB (bankS st.b0) (bankS st.b1) st.s0 st.s1
  · exact Rboot_old hr h0 h1 ha
  · exact Rboot_new hr h0 h1 ha


end Go.Proofs.YtikdbpphbdbdnaaGreat

/- The document's board: one cycle. -/
namespace Go.Proofs.YtikdbpphbdbdnaaGreat
open Go.RowKit
set_option linter.unusedVariables false

set_option maxRecDepth 100000 in
set_option maxHeartbeats 1000000 in
theorem Rstep_low_down {L : Lay} {st : St} {w : World} (hr : Rep L st w) (hi : Inv st) (rs : Bool) (v p : Int) (hp0 : 0 ≤ p) (hp1 : p ≤ 255) (hv : v < 2700) :
    Calls Tryz.prog 34 #[.pointer (some ⟨L.g, 0, none⟩), .agg #[.bool rs, .int .i64 v, .int .u8 p]] w fun e w' => e = .returned (.agg #[.int .i64 (st.step ⟨rs, v, p⟩).2.kind, .int .i64 (st.step ⟨rs, v, p⟩).2.addr, .int .u8 (st.step ⟨rs, v, p⟩).2.data, .int .u8 (st.step ⟨rs, v, p⟩).2.out]) ∧ Rep L (st.step ⟨rs, v, p⟩).1 w' ∧ Kept L.own w w' := by
  have hfr := hr.fresh
  obtain ⟨l1, l2, l3⟩ := hr.lt
  have HF : Hid (st.step ⟨rs, v, p⟩ = (({ st with inp := p, down := true } : St).reset 6, ⟨0, 0, 0, 0⟩)) := by simp [Hid, St.step, St.supply, hv]
  have c_inp := hr.c_inp
  have f_inp := hr.f_inp
  have c_down := hr.c_down
  have f_down := hr.f_down
  have c_left := hr.c_left
  have f_left := hr.f_left
  have c_bank := hr.c_bank
  rw [HF.out]
  go_enter Tryz.func34, Tryz.ntmps34
  go_wp2_with fail
  refine (Rreset_any (st := { st with inp := p, down := true }) ?hrep 6 (Or.inl rfl)).mono ?_
  case hrep =>
    apply Rep.as
    · (repeat (with_reducible first | apply Rep.alloc | apply Rep.drewN | apply Rep.drew | apply Rep.set_bank | apply Rep.set_s0 | apply Rep.set_s1 | apply Rep.set_cause | apply Rep.set_left | apply Rep.set_down | apply Rep.set_a | apply Rep.set_x | apply Rep.set_pc | apply Rep.set_zero | apply Rep.set_carry | apply Rep.set_op | apply Rep.set_opd | apply Rep.set_phase | apply Rep.set_period | apply Rep.set_count | apply Rep.set_flag | apply Rep.set_age | apply Rep.set_window | apply Rep.set_windowed | apply Rep.set_key | apply Rep.set_out | apply Rep.set_inp | apply Rep.set_opn | apply Rep.set_place | apply Rep.set_rst | (apply Rep.other; case hb => exact hfr _ (by omega)) | exact hr | exact hr1 | exact hr2 | exact hr3))
    · rfl
  rintro e w1 ⟨rfl, hr1, k1⟩
  obtain ⟨hc, hf⟩ := kcell k1 (b := w.heap.size + 1) (by simp) (hfr _ (by omega))
  have hz : w.heap.size + 1 < w1.heap.size := by have := k1.size; simp at this; omega
  have k2 : Kept L.own w w1 := by
    refine Kept.trans ?_ k1
    (repeat (with_reducible first | apply Kept.alloc | apply Kept.drewN | apply Kept.drew | apply Kept.rg | apply Kept.p | apply Kept.q | refine Kept.setCell ?_ (Or.inr (Nat.le_refl _)) _ | refine Kept.setCell ?_ (Or.inr (by omega)) _ | exact k1 | exact k2 | exact k3 | exact Kept.refl _ _))
  clear k1
  go_wp2
  refine bodyPost_ret (v := .agg #[.int .i64 0, .int .i64 0, .int .u8 0, .int .u8 0]) (by simp [results, Tryz.results34, go_sem, hc]) rfl ⟨rfl, ?r, ?k⟩
  case r =>
    apply Rep.as
    · (repeat (with_reducible first | apply Rep.alloc | apply Rep.drewN | apply Rep.drew | apply Rep.set_bank | apply Rep.set_s0 | apply Rep.set_s1 | apply Rep.set_cause | apply Rep.set_left | apply Rep.set_down | apply Rep.set_a | apply Rep.set_x | apply Rep.set_pc | apply Rep.set_zero | apply Rep.set_carry | apply Rep.set_op | apply Rep.set_opd | apply Rep.set_phase | apply Rep.set_period | apply Rep.set_count | apply Rep.set_flag | apply Rep.set_age | apply Rep.set_window | apply Rep.set_windowed | apply Rep.set_key | apply Rep.set_out | apply Rep.set_inp | apply Rep.set_opn | apply Rep.set_place | apply Rep.set_rst | (apply Rep.other; case hb => exact hfr _ (by omega)) | exact hr | exact hr1 | exact hr2 | exact hr3))
    · rfl
  case k => (repeat (with_reducible first | apply Kept.alloc | apply Kept.drewN | apply Kept.drew | apply Kept.rg | apply Kept.p | apply Kept.q | refine Kept.setCell ?_ (Or.inr (Nat.le_refl _)) _ | refine Kept.setCell ?_ (Or.inr (by omega)) _ | exact k1 | exact k2 | exact k3 | exact Kept.refl _ _))

set_option maxRecDepth 100000 in
set_option maxHeartbeats 1000000 in
theorem Rstep_high_pin {L : Lay} {st : St} {w : World} (hr : Rep L st w) (hi : Inv st) (rs : Bool) (v p : Int) (hp0 : 0 ≤ p) (hp1 : p ≤ 255) (hv : ¬ v < 2700) (hv2 : 3000 ≤ v) (hr0 : rs = true) :
    Calls Tryz.prog 34 #[.pointer (some ⟨L.g, 0, none⟩), .agg #[.bool rs, .int .i64 v, .int .u8 p]] w fun e w' => e = .returned (.agg #[.int .i64 (st.step ⟨rs, v, p⟩).2.kind, .int .i64 (st.step ⟨rs, v, p⟩).2.addr, .int .u8 (st.step ⟨rs, v, p⟩).2.data, .int .u8 (st.step ⟨rs, v, p⟩).2.out]) ∧ Rep L (st.step ⟨rs, v, p⟩).1 w' ∧ Kept L.own w w' := by
  have hfr := hr.fresh
  obtain ⟨l1, l2, l3⟩ := hr.lt
  have HF : Hid (st.step ⟨rs, v, p⟩ = (({ st with inp := p, down := false } : St).reset 5, ⟨0, 0, 0, 0⟩)) := by simp [Hid, St.step, St.supply, hv, hv2, hr0]
  have c_inp := hr.c_inp
  have f_inp := hr.f_inp
  have c_down := hr.c_down
  have f_down := hr.f_down
  have c_left := hr.c_left
  have f_left := hr.f_left
  have c_bank := hr.c_bank
  subst hr0
  rw [HF.out]
  go_enter Tryz.func34, Tryz.ntmps34
  go_wp2_with fail
  refine (Rreset_any (st := { st with inp := p, down := false }) ?hrep 5 (Or.inl rfl)).mono ?_
  case hrep =>
    apply Rep.as
    · (repeat (with_reducible first | apply Rep.alloc | apply Rep.drewN | apply Rep.drew | apply Rep.set_bank | apply Rep.set_s0 | apply Rep.set_s1 | apply Rep.set_cause | apply Rep.set_left | apply Rep.set_down | apply Rep.set_a | apply Rep.set_x | apply Rep.set_pc | apply Rep.set_zero | apply Rep.set_carry | apply Rep.set_op | apply Rep.set_opd | apply Rep.set_phase | apply Rep.set_period | apply Rep.set_count | apply Rep.set_flag | apply Rep.set_age | apply Rep.set_window | apply Rep.set_windowed | apply Rep.set_key | apply Rep.set_out | apply Rep.set_inp | apply Rep.set_opn | apply Rep.set_place | apply Rep.set_rst | (apply Rep.other; case hb => exact hfr _ (by omega)) | exact hr | exact hr1 | exact hr2 | exact hr3))
    · rfl
  rintro e w1 ⟨rfl, hr1, k1⟩
  obtain ⟨hc, hf⟩ := kcell k1 (b := w.heap.size + 1) (by simp) (hfr _ (by omega))
  have hz : w.heap.size + 1 < w1.heap.size := by have := k1.size; simp at this; omega
  have k2 : Kept L.own w w1 := by
    refine Kept.trans ?_ k1
    (repeat (with_reducible first | apply Kept.alloc | apply Kept.drewN | apply Kept.drew | apply Kept.rg | apply Kept.p | apply Kept.q | refine Kept.setCell ?_ (Or.inr (Nat.le_refl _)) _ | refine Kept.setCell ?_ (Or.inr (by omega)) _ | exact k1 | exact k2 | exact k3 | exact Kept.refl _ _))
  clear k1
  go_wp2
  refine bodyPost_ret (v := .agg #[.int .i64 0, .int .i64 0, .int .u8 0, .int .u8 0]) (by simp [results, Tryz.results34, go_sem, hc]) rfl ⟨rfl, ?r, ?k⟩
  case r =>
    apply Rep.as
    · (repeat (with_reducible first | apply Rep.alloc | apply Rep.drewN | apply Rep.drew | apply Rep.set_bank | apply Rep.set_s0 | apply Rep.set_s1 | apply Rep.set_cause | apply Rep.set_left | apply Rep.set_down | apply Rep.set_a | apply Rep.set_x | apply Rep.set_pc | apply Rep.set_zero | apply Rep.set_carry | apply Rep.set_op | apply Rep.set_opd | apply Rep.set_phase | apply Rep.set_period | apply Rep.set_count | apply Rep.set_flag | apply Rep.set_age | apply Rep.set_window | apply Rep.set_windowed | apply Rep.set_key | apply Rep.set_out | apply Rep.set_inp | apply Rep.set_opn | apply Rep.set_place | apply Rep.set_rst | (apply Rep.other; case hb => exact hfr _ (by omega)) | exact hr | exact hr1 | exact hr2 | exact hr3))
    · rfl
  case k => (repeat (with_reducible first | apply Kept.alloc | apply Kept.drewN | apply Kept.drew | apply Kept.rg | apply Kept.p | apply Kept.q | refine Kept.setCell ?_ (Or.inr (Nat.le_refl _)) _ | refine Kept.setCell ?_ (Or.inr (by omega)) _ | exact k1 | exact k2 | exact k3 | exact Kept.refl _ _))

set_option maxRecDepth 100000 in
set_option maxHeartbeats 1000000 in
theorem Rstep_high_more {L : Lay} {st : St} {w : World} (hr : Rep L st w) (hi : Inv st) (rs : Bool) (v p : Int) (hp0 : 0 ≤ p) (hp1 : p ≤ 255) (hv : ¬ v < 2700) (hv2 : 3000 ≤ v) (hr0 : rs = false) (hl : 0 < st.left) (hl1 : ¬ st.left - 1 = 0) :
    Calls Tryz.prog 34 #[.pointer (some ⟨L.g, 0, none⟩), .agg #[.bool rs, .int .i64 v, .int .u8 p]] w fun e w' => e = .returned (.agg #[.int .i64 (st.step ⟨rs, v, p⟩).2.kind, .int .i64 (st.step ⟨rs, v, p⟩).2.addr, .int .u8 (st.step ⟨rs, v, p⟩).2.data, .int .u8 (st.step ⟨rs, v, p⟩).2.out]) ∧ Rep L (st.step ⟨rs, v, p⟩).1 w' ∧ Kept L.own w w' := by
  have hfr := hr.fresh
  obtain ⟨l1, l2, l3⟩ := hr.lt
  have HF : Hid (st.step ⟨rs, v, p⟩ = ({ st with inp := p, down := false, left := st.left - 1 }, ⟨0, 0, 0, 0⟩)) := by simp [Hid, St.step, St.supply, hv, hv2, hr0, hl, hl1]
  have c_inp := hr.c_inp
  have f_inp := hr.f_inp
  have c_down := hr.c_down
  have f_down := hr.f_down
  have c_left := hr.c_left
  have f_left := hr.f_left
  have c_bank := hr.c_bank
  subst hr0
  rw [HF.out]
  have hq := hi.left
  have hl2 : (st.left - 1 == 0) = false := by simpa using hl1
  clear hl1
  go_enter Tryz.func34, Tryz.ntmps34
  go_wp2
  refine bodyPost_ret (v := .agg #[.int .i64 0, .int .i64 0, .int .u8 0, .int .u8 0]) (by simp [results, Tryz.results34, go_sem]) rfl ⟨rfl, ?r, ?k⟩
  case r =>
    apply Rep.as
    · (repeat (with_reducible first | apply Rep.alloc | apply Rep.drewN | apply Rep.drew | apply Rep.set_bank | apply Rep.set_s0 | apply Rep.set_s1 | apply Rep.set_cause | apply Rep.set_left | apply Rep.set_down | apply Rep.set_a | apply Rep.set_x | apply Rep.set_pc | apply Rep.set_zero | apply Rep.set_carry | apply Rep.set_op | apply Rep.set_opd | apply Rep.set_phase | apply Rep.set_period | apply Rep.set_count | apply Rep.set_flag | apply Rep.set_age | apply Rep.set_window | apply Rep.set_windowed | apply Rep.set_key | apply Rep.set_out | apply Rep.set_inp | apply Rep.set_opn | apply Rep.set_place | apply Rep.set_rst | (apply Rep.other; case hb => exact hfr _ (by omega)) | exact hr | exact hr1 | exact hr2 | exact hr3))
    · rfl
  case k => (repeat (with_reducible first | apply Kept.alloc | apply Kept.drewN | apply Kept.drew | apply Kept.rg | apply Kept.p | apply Kept.q | refine Kept.setCell ?_ (Or.inr (Nat.le_refl _)) _ | refine Kept.setCell ?_ (Or.inr (by omega)) _ | exact k1 | exact k2 | exact k3 | exact Kept.refl _ _))

set_option maxRecDepth 100000 in
set_option maxHeartbeats 1000000 in
theorem Rstep_high_boot {L : Lay} {st : St} {w : World} (hr : Rep L st w) (hi : Inv st) (rs : Bool) (v p : Int) (hp0 : 0 ≤ p) (hp1 : p ≤ 255) (hv : ¬ v < 2700) (hv2 : 3000 ≤ v) (hr0 : rs = false) (hl : 0 < st.left) (hl1 : st.left - 1 = 0) :
    Calls Tryz.prog 34 #[.pointer (some ⟨L.g, 0, none⟩), .agg #[.bool rs, .int .i64 v, .int .u8 p]] w fun e w' => e = .returned (.agg #[.int .i64 (st.step ⟨rs, v, p⟩).2.kind, .int .i64 (st.step ⟨rs, v, p⟩).2.addr, .int .u8 (st.step ⟨rs, v, p⟩).2.data, .int .u8 (st.step ⟨rs, v, p⟩).2.out]) ∧ Rep L (st.step ⟨rs, v, p⟩).1 w' ∧ Kept L.own w w' := by
  have hfr := hr.fresh
  obtain ⟨l1, l2, l3⟩ := hr.lt
  have HF : Hid (st.step ⟨rs, v, p⟩ = (({ st with inp := p, down := false, left := st.left - 1 } : St).boot, ⟨0, 0, 0, 0⟩)) := by simp [Hid, St.step, St.supply, hv, hv2, hr0, hl, hl1]
  have c_inp := hr.c_inp
  have f_inp := hr.f_inp
  have c_down := hr.c_down
  have f_down := hr.f_down
  have c_left := hr.c_left
  have f_left := hr.f_left
  have c_bank := hr.c_bank
  subst hr0
  rw [HF.out]
  have hq := hi.left
  have hl2 : (st.left - 1 == 0) = true := by simpa using hl1
  clear hl1
  go_enter Tryz.func34, Tryz.ntmps34
  go_wp2_with fail
  refine (Rboot_any (st := { st with inp := p, down := false, left := st.left - 1 }) ?hrep hi.b0 hi.b1).mono ?_
  case hrep =>
    apply Rep.as
    · (repeat (with_reducible first | apply Rep.alloc | apply Rep.drewN | apply Rep.drew | apply Rep.set_bank | apply Rep.set_s0 | apply Rep.set_s1 | apply Rep.set_cause | apply Rep.set_left | apply Rep.set_down | apply Rep.set_a | apply Rep.set_x | apply Rep.set_pc | apply Rep.set_zero | apply Rep.set_carry | apply Rep.set_op | apply Rep.set_opd | apply Rep.set_phase | apply Rep.set_period | apply Rep.set_count | apply Rep.set_flag | apply Rep.set_age | apply Rep.set_window | apply Rep.set_windowed | apply Rep.set_key | apply Rep.set_out | apply Rep.set_inp | apply Rep.set_opn | apply Rep.set_place | apply Rep.set_rst | (apply Rep.other; case hb => exact hfr _ (by omega)) | exact hr | exact hr1 | exact hr2 | exact hr3))
    · rfl
  rintro e w1 ⟨rfl, hr1, k1⟩
  obtain ⟨hc, hf⟩ := kcell k1 (b := w.heap.size + 1) (by simp) (hfr _ (by omega))
  have hz : w.heap.size + 1 < w1.heap.size := by have := k1.size; simp at this; omega
  have k2 : Kept L.own w w1 := by
    refine Kept.trans ?_ k1
    (repeat (with_reducible first | apply Kept.alloc | apply Kept.drewN | apply Kept.drew | apply Kept.rg | apply Kept.p | apply Kept.q | refine Kept.setCell ?_ (Or.inr (Nat.le_refl _)) _ | refine Kept.setCell ?_ (Or.inr (by omega)) _ | exact k1 | exact k2 | exact k3 | exact Kept.refl _ _))
  clear k1
  go_wp2
  refine bodyPost_ret (v := .agg #[.int .i64 0, .int .i64 0, .int .u8 0, .int .u8 0]) (by simp [results, Tryz.results34, go_sem, hc]) rfl ⟨rfl, ?r, ?k⟩
  case r =>
    apply Rep.as
    · (repeat (with_reducible first | apply Rep.alloc | apply Rep.drewN | apply Rep.drew | apply Rep.set_bank | apply Rep.set_s0 | apply Rep.set_s1 | apply Rep.set_cause | apply Rep.set_left | apply Rep.set_down | apply Rep.set_a | apply Rep.set_x | apply Rep.set_pc | apply Rep.set_zero | apply Rep.set_carry | apply Rep.set_op | apply Rep.set_opd | apply Rep.set_phase | apply Rep.set_period | apply Rep.set_count | apply Rep.set_flag | apply Rep.set_age | apply Rep.set_window | apply Rep.set_windowed | apply Rep.set_key | apply Rep.set_out | apply Rep.set_inp | apply Rep.set_opn | apply Rep.set_place | apply Rep.set_rst | (apply Rep.other; case hb => exact hfr _ (by omega)) | exact hr | exact hr1 | exact hr2 | exact hr3))
    · rfl
  case k => (repeat (with_reducible first | apply Kept.alloc | apply Kept.drewN | apply Kept.drew | apply Kept.rg | apply Kept.p | apply Kept.q | refine Kept.setCell ?_ (Or.inr (Nat.le_refl _)) _ | refine Kept.setCell ?_ (Or.inr (by omega)) _ | exact k1 | exact k2 | exact k3 | exact Kept.refl _ _))

set_option maxRecDepth 100000 in
set_option maxHeartbeats 1000000 in
theorem Rstep_high_dead {L : Lay} {st : St} {w : World} (hr : Rep L st w) (hi : Inv st) (rs : Bool) (v p : Int) (hp0 : 0 ≤ p) (hp1 : p ≤ 255) (hv : ¬ v < 2700) (hv2 : 3000 ≤ v) (hr0 : rs = false) (hl : ¬ 0 < st.left) (hb : st.bank < 0) :
    Calls Tryz.prog 34 #[.pointer (some ⟨L.g, 0, none⟩), .agg #[.bool rs, .int .i64 v, .int .u8 p]] w fun e w' => e = .returned (.agg #[.int .i64 (st.step ⟨rs, v, p⟩).2.kind, .int .i64 (st.step ⟨rs, v, p⟩).2.addr, .int .u8 (st.step ⟨rs, v, p⟩).2.data, .int .u8 (st.step ⟨rs, v, p⟩).2.out]) ∧ Rep L (st.step ⟨rs, v, p⟩).1 w' ∧ Kept L.own w w' := by
  have hfr := hr.fresh
  obtain ⟨l1, l2, l3⟩ := hr.lt
  have HF : Hid (st.step ⟨rs, v, p⟩ = ({ st with inp := p, down := false }, ⟨1, 0, 0, 0⟩)) := by simp [Hid, St.step, St.supply, hv, hv2, hr0, hl, hb]
  have c_inp := hr.c_inp
  have f_inp := hr.f_inp
  have c_down := hr.c_down
  have f_down := hr.f_down
  have c_left := hr.c_left
  have f_left := hr.f_left
  have c_bank := hr.c_bank
  subst hr0
  rw [HF.out]
  go_enter Tryz.func34, Tryz.ntmps34
  go_wp2
  refine bodyPost_ret (v := .agg #[.int .i64 1, .int .i64 0, .int .u8 0, .int .u8 0]) (by simp [results, Tryz.results34, go_sem]) rfl ⟨rfl, ?r, ?k⟩
  case r =>
    apply Rep.as
    · (repeat (with_reducible first | apply Rep.alloc | apply Rep.drewN | apply Rep.drew | apply Rep.set_bank | apply Rep.set_s0 | apply Rep.set_s1 | apply Rep.set_cause | apply Rep.set_left | apply Rep.set_down | apply Rep.set_a | apply Rep.set_x | apply Rep.set_pc | apply Rep.set_zero | apply Rep.set_carry | apply Rep.set_op | apply Rep.set_opd | apply Rep.set_phase | apply Rep.set_period | apply Rep.set_count | apply Rep.set_flag | apply Rep.set_age | apply Rep.set_window | apply Rep.set_windowed | apply Rep.set_key | apply Rep.set_out | apply Rep.set_inp | apply Rep.set_opn | apply Rep.set_place | apply Rep.set_rst | (apply Rep.other; case hb => exact hfr _ (by omega)) | exact hr | exact hr1 | exact hr2 | exact hr3))
    · rfl
  case k => (repeat (with_reducible first | apply Kept.alloc | apply Kept.drewN | apply Kept.drew | apply Kept.rg | apply Kept.p | apply Kept.q | refine Kept.setCell ?_ (Or.inr (Nat.le_refl _)) _ | refine Kept.setCell ?_ (Or.inr (by omega)) _ | exact k1 | exact k2 | exact k3 | exact Kept.refl _ _))

set_option maxRecDepth 100000 in
set_option maxHeartbeats 1000000 in
theorem Rstep_high_runs {L : Lay} {st : St} {w : World} (hr : Rep L st w) (hi : Inv st) (rs : Bool) (v p : Int) (hp0 : 0 ≤ p) (hp1 : p ≤ 255) (hv : ¬ v < 2700) (hv2 : 3000 ≤ v) (hr0 : rs = false) (hl : ¬ 0 < st.left) (hb : ¬ st.bank < 0) :
    Calls Tryz.prog 34 #[.pointer (some ⟨L.g, 0, none⟩), .agg #[.bool rs, .int .i64 v, .int .u8 p]] w fun e w' => e = .returned (.agg #[.int .i64 (st.step ⟨rs, v, p⟩).2.kind, .int .i64 (st.step ⟨rs, v, p⟩).2.addr, .int .u8 (st.step ⟨rs, v, p⟩).2.data, .int .u8 (st.step ⟨rs, v, p⟩).2.out]) ∧ Rep L (st.step ⟨rs, v, p⟩).1 w' ∧ Kept L.own w w' := by
  have hfr := hr.fresh
  obtain ⟨l1, l2, l3⟩ := hr.lt
  have HF : Hid (st.step ⟨rs, v, p⟩ = ({ st with inp := p, down := false } : St).runs) := by simp [Hid, St.step, St.supply, hv, hv2, hr0, hl, hb]
  have c_inp := hr.c_inp
  have f_inp := hr.f_inp
  have c_down := hr.c_down
  have f_down := hr.f_down
  have c_left := hr.c_left
  have f_left := hr.f_left
  have c_bank := hr.c_bank
  subst hr0
  rw [HF.out]
  have hq := hi.left
  have hiB : Inv { st with inp := p, down := false } := { hi with inp := ⟨hp0, hp1⟩ }
  go_enter Tryz.func34, Tryz.ntmps34
  go_wp2_with fail
  refine (Rruns_any (st := { st with inp := p, down := false }) ?hrep hiB (by show 0 ≤ st.bank; omega) (by show st.left = 0; omega)).mono ?_
  case hrep =>
    apply Rep.as
    · (repeat (with_reducible first | apply Rep.alloc | apply Rep.drewN | apply Rep.drew | apply Rep.set_bank | apply Rep.set_s0 | apply Rep.set_s1 | apply Rep.set_cause | apply Rep.set_left | apply Rep.set_down | apply Rep.set_a | apply Rep.set_x | apply Rep.set_pc | apply Rep.set_zero | apply Rep.set_carry | apply Rep.set_op | apply Rep.set_opd | apply Rep.set_phase | apply Rep.set_period | apply Rep.set_count | apply Rep.set_flag | apply Rep.set_age | apply Rep.set_window | apply Rep.set_windowed | apply Rep.set_key | apply Rep.set_out | apply Rep.set_inp | apply Rep.set_opn | apply Rep.set_place | apply Rep.set_rst | (apply Rep.other; case hb => exact hfr _ (by omega)) | exact hr | exact hr1 | exact hr2 | exact hr3))
    · rfl
  rintro e w1 ⟨rfl, hr1, k1⟩
  obtain ⟨hc, hf⟩ := kcell k1 (b := w.heap.size + 1) (by simp) (hfr _ (by omega))
  have hz : w.heap.size + 1 < w1.heap.size := by have := k1.size; simp at this; omega
  have k2 : Kept L.own w w1 := by
    refine Kept.trans ?_ k1
    (repeat (with_reducible first | apply Kept.alloc | apply Kept.drewN | apply Kept.drew | apply Kept.rg | apply Kept.p | apply Kept.q | refine Kept.setCell ?_ (Or.inr (Nat.le_refl _)) _ | refine Kept.setCell ?_ (Or.inr (by omega)) _ | exact k1 | exact k2 | exact k3 | exact Kept.refl _ _))
  clear k1
  go_wp2
  refine bodyPost_ret (v := .agg #[.int .i64 ({ st with inp := p, down := false } : St).runs.2.kind, .int .i64 ({ st with inp := p, down := false } : St).runs.2.addr, .int .u8 ({ st with inp := p, down := false } : St).runs.2.data, .int .u8 ({ st with inp := p, down := false } : St).runs.2.out]) (by simp [results, Tryz.results34, go_sem, hc]) rfl ⟨rfl, ?r, ?k⟩
  case r =>
    apply Rep.as
    · (repeat (with_reducible first | apply Rep.alloc | apply Rep.drewN | apply Rep.drew | apply Rep.set_bank | apply Rep.set_s0 | apply Rep.set_s1 | apply Rep.set_cause | apply Rep.set_left | apply Rep.set_down | apply Rep.set_a | apply Rep.set_x | apply Rep.set_pc | apply Rep.set_zero | apply Rep.set_carry | apply Rep.set_op | apply Rep.set_opd | apply Rep.set_phase | apply Rep.set_period | apply Rep.set_count | apply Rep.set_flag | apply Rep.set_age | apply Rep.set_window | apply Rep.set_windowed | apply Rep.set_key | apply Rep.set_out | apply Rep.set_inp | apply Rep.set_opn | apply Rep.set_place | apply Rep.set_rst | (apply Rep.other; case hb => exact hfr _ (by omega)) | exact hr | exact hr1 | exact hr2 | exact hr3))
    · rfl
  case k => (repeat (with_reducible first | apply Kept.alloc | apply Kept.drewN | apply Kept.drew | apply Kept.rg | apply Kept.p | apply Kept.q | refine Kept.setCell ?_ (Or.inr (Nat.le_refl _)) _ | refine Kept.setCell ?_ (Or.inr (by omega)) _ | exact k1 | exact k2 | exact k3 | exact Kept.refl _ _))

set_option maxRecDepth 100000 in
set_option maxHeartbeats 1000000 in
theorem Rstep_mid_down {L : Lay} {st : St} {w : World} (hr : Rep L st w) (hi : Inv st) (rs : Bool) (v p : Int) (hp0 : 0 ≤ p) (hp1 : p ≤ 255) (hv : ¬ v < 2700) (hv2 : ¬ 3000 ≤ v) (hd : st.down = true) :
    Calls Tryz.prog 34 #[.pointer (some ⟨L.g, 0, none⟩), .agg #[.bool rs, .int .i64 v, .int .u8 p]] w fun e w' => e = .returned (.agg #[.int .i64 (st.step ⟨rs, v, p⟩).2.kind, .int .i64 (st.step ⟨rs, v, p⟩).2.addr, .int .u8 (st.step ⟨rs, v, p⟩).2.data, .int .u8 (st.step ⟨rs, v, p⟩).2.out]) ∧ Rep L (st.step ⟨rs, v, p⟩).1 w' ∧ Kept L.own w w' := by
  have hfr := hr.fresh
  obtain ⟨l1, l2, l3⟩ := hr.lt
  have HF : Hid (st.step ⟨rs, v, p⟩ = (({ st with inp := p } : St).reset 6, ⟨0, 0, 0, 0⟩)) := by simp [Hid, St.step, St.supply, hv, hv2, hd]
  have c_inp := hr.c_inp
  have f_inp := hr.f_inp
  have c_down := hr.c_down
  have f_down := hr.f_down
  have c_left := hr.c_left
  have f_left := hr.f_left
  have c_bank := hr.c_bank
  rw [hd] at c_down
  clear hd
  rw [HF.out]
  go_enter Tryz.func34, Tryz.ntmps34
  go_wp2_with fail
  refine (Rreset_any (st := { st with inp := p }) ?hrep 6 (Or.inl rfl)).mono ?_
  case hrep =>
    apply Rep.as
    · (repeat (with_reducible first | apply Rep.alloc | apply Rep.drewN | apply Rep.drew | apply Rep.set_bank | apply Rep.set_s0 | apply Rep.set_s1 | apply Rep.set_cause | apply Rep.set_left | apply Rep.set_down | apply Rep.set_a | apply Rep.set_x | apply Rep.set_pc | apply Rep.set_zero | apply Rep.set_carry | apply Rep.set_op | apply Rep.set_opd | apply Rep.set_phase | apply Rep.set_period | apply Rep.set_count | apply Rep.set_flag | apply Rep.set_age | apply Rep.set_window | apply Rep.set_windowed | apply Rep.set_key | apply Rep.set_out | apply Rep.set_inp | apply Rep.set_opn | apply Rep.set_place | apply Rep.set_rst | (apply Rep.other; case hb => exact hfr _ (by omega)) | exact hr | exact hr1 | exact hr2 | exact hr3))
    · rfl
  rintro e w1 ⟨rfl, hr1, k1⟩
  obtain ⟨hc, hf⟩ := kcell k1 (b := w.heap.size + 1) (by simp) (hfr _ (by omega))
  have hz : w.heap.size + 1 < w1.heap.size := by have := k1.size; simp at this; omega
  have k2 : Kept L.own w w1 := by
    refine Kept.trans ?_ k1
    (repeat (with_reducible first | apply Kept.alloc | apply Kept.drewN | apply Kept.drew | apply Kept.rg | apply Kept.p | apply Kept.q | refine Kept.setCell ?_ (Or.inr (Nat.le_refl _)) _ | refine Kept.setCell ?_ (Or.inr (by omega)) _ | exact k1 | exact k2 | exact k3 | exact Kept.refl _ _))
  clear k1
  go_wp2
  refine bodyPost_ret (v := .agg #[.int .i64 0, .int .i64 0, .int .u8 0, .int .u8 0]) (by simp [results, Tryz.results34, go_sem, hc]) rfl ⟨rfl, ?r, ?k⟩
  case r =>
    apply Rep.as
    · (repeat (with_reducible first | apply Rep.alloc | apply Rep.drewN | apply Rep.drew | apply Rep.set_bank | apply Rep.set_s0 | apply Rep.set_s1 | apply Rep.set_cause | apply Rep.set_left | apply Rep.set_down | apply Rep.set_a | apply Rep.set_x | apply Rep.set_pc | apply Rep.set_zero | apply Rep.set_carry | apply Rep.set_op | apply Rep.set_opd | apply Rep.set_phase | apply Rep.set_period | apply Rep.set_count | apply Rep.set_flag | apply Rep.set_age | apply Rep.set_window | apply Rep.set_windowed | apply Rep.set_key | apply Rep.set_out | apply Rep.set_inp | apply Rep.set_opn | apply Rep.set_place | apply Rep.set_rst | (apply Rep.other; case hb => exact hfr _ (by omega)) | exact hr | exact hr1 | exact hr2 | exact hr3))
    · rfl
  case k => (repeat (with_reducible first | apply Kept.alloc | apply Kept.drewN | apply Kept.drew | apply Kept.rg | apply Kept.p | apply Kept.q | refine Kept.setCell ?_ (Or.inr (Nat.le_refl _)) _ | refine Kept.setCell ?_ (Or.inr (by omega)) _ | exact k1 | exact k2 | exact k3 | exact Kept.refl _ _))

set_option maxRecDepth 100000 in
set_option maxHeartbeats 1000000 in
theorem Rstep_mid_pin {L : Lay} {st : St} {w : World} (hr : Rep L st w) (hi : Inv st) (rs : Bool) (v p : Int) (hp0 : 0 ≤ p) (hp1 : p ≤ 255) (hv : ¬ v < 2700) (hv2 : ¬ 3000 ≤ v) (hd : st.down = false) (hr0 : rs = true) :
    Calls Tryz.prog 34 #[.pointer (some ⟨L.g, 0, none⟩), .agg #[.bool rs, .int .i64 v, .int .u8 p]] w fun e w' => e = .returned (.agg #[.int .i64 (st.step ⟨rs, v, p⟩).2.kind, .int .i64 (st.step ⟨rs, v, p⟩).2.addr, .int .u8 (st.step ⟨rs, v, p⟩).2.data, .int .u8 (st.step ⟨rs, v, p⟩).2.out]) ∧ Rep L (st.step ⟨rs, v, p⟩).1 w' ∧ Kept L.own w w' := by
  have hfr := hr.fresh
  obtain ⟨l1, l2, l3⟩ := hr.lt
  have HF : Hid (st.step ⟨rs, v, p⟩ = (({ st with inp := p } : St).reset 5, ⟨0, 0, 0, 0⟩)) := by simp [Hid, St.step, St.supply, hv, hv2, hd, hr0]
  have c_inp := hr.c_inp
  have f_inp := hr.f_inp
  have c_down := hr.c_down
  have f_down := hr.f_down
  have c_left := hr.c_left
  have f_left := hr.f_left
  have c_bank := hr.c_bank
  rw [hd] at c_down
  clear hd
  subst hr0
  rw [HF.out]
  go_enter Tryz.func34, Tryz.ntmps34
  go_wp2_with fail
  refine (Rreset_any (st := { st with inp := p }) ?hrep 5 (Or.inl rfl)).mono ?_
  case hrep =>
    apply Rep.as
    · (repeat (with_reducible first | apply Rep.alloc | apply Rep.drewN | apply Rep.drew | apply Rep.set_bank | apply Rep.set_s0 | apply Rep.set_s1 | apply Rep.set_cause | apply Rep.set_left | apply Rep.set_down | apply Rep.set_a | apply Rep.set_x | apply Rep.set_pc | apply Rep.set_zero | apply Rep.set_carry | apply Rep.set_op | apply Rep.set_opd | apply Rep.set_phase | apply Rep.set_period | apply Rep.set_count | apply Rep.set_flag | apply Rep.set_age | apply Rep.set_window | apply Rep.set_windowed | apply Rep.set_key | apply Rep.set_out | apply Rep.set_inp | apply Rep.set_opn | apply Rep.set_place | apply Rep.set_rst | (apply Rep.other; case hb => exact hfr _ (by omega)) | exact hr | exact hr1 | exact hr2 | exact hr3))
    · rfl
  rintro e w1 ⟨rfl, hr1, k1⟩
  obtain ⟨hc, hf⟩ := kcell k1 (b := w.heap.size + 1) (by simp) (hfr _ (by omega))
  have hz : w.heap.size + 1 < w1.heap.size := by have := k1.size; simp at this; omega
  have k2 : Kept L.own w w1 := by
    refine Kept.trans ?_ k1
    (repeat (with_reducible first | apply Kept.alloc | apply Kept.drewN | apply Kept.drew | apply Kept.rg | apply Kept.p | apply Kept.q | refine Kept.setCell ?_ (Or.inr (Nat.le_refl _)) _ | refine Kept.setCell ?_ (Or.inr (by omega)) _ | exact k1 | exact k2 | exact k3 | exact Kept.refl _ _))
  clear k1
  go_wp2
  refine bodyPost_ret (v := .agg #[.int .i64 0, .int .i64 0, .int .u8 0, .int .u8 0]) (by simp [results, Tryz.results34, go_sem, hc]) rfl ⟨rfl, ?r, ?k⟩
  case r =>
    apply Rep.as
    · (repeat (with_reducible first | apply Rep.alloc | apply Rep.drewN | apply Rep.drew | apply Rep.set_bank | apply Rep.set_s0 | apply Rep.set_s1 | apply Rep.set_cause | apply Rep.set_left | apply Rep.set_down | apply Rep.set_a | apply Rep.set_x | apply Rep.set_pc | apply Rep.set_zero | apply Rep.set_carry | apply Rep.set_op | apply Rep.set_opd | apply Rep.set_phase | apply Rep.set_period | apply Rep.set_count | apply Rep.set_flag | apply Rep.set_age | apply Rep.set_window | apply Rep.set_windowed | apply Rep.set_key | apply Rep.set_out | apply Rep.set_inp | apply Rep.set_opn | apply Rep.set_place | apply Rep.set_rst | (apply Rep.other; case hb => exact hfr _ (by omega)) | exact hr | exact hr1 | exact hr2 | exact hr3))
    · rfl
  case k => (repeat (with_reducible first | apply Kept.alloc | apply Kept.drewN | apply Kept.drew | apply Kept.rg | apply Kept.p | apply Kept.q | refine Kept.setCell ?_ (Or.inr (Nat.le_refl _)) _ | refine Kept.setCell ?_ (Or.inr (by omega)) _ | exact k1 | exact k2 | exact k3 | exact Kept.refl _ _))

set_option maxRecDepth 100000 in
set_option maxHeartbeats 1000000 in
theorem Rstep_mid_more {L : Lay} {st : St} {w : World} (hr : Rep L st w) (hi : Inv st) (rs : Bool) (v p : Int) (hp0 : 0 ≤ p) (hp1 : p ≤ 255) (hv : ¬ v < 2700) (hv2 : ¬ 3000 ≤ v) (hd : st.down = false) (hr0 : rs = false) (hl : 0 < st.left) (hl1 : ¬ st.left - 1 = 0) :
    Calls Tryz.prog 34 #[.pointer (some ⟨L.g, 0, none⟩), .agg #[.bool rs, .int .i64 v, .int .u8 p]] w fun e w' => e = .returned (.agg #[.int .i64 (st.step ⟨rs, v, p⟩).2.kind, .int .i64 (st.step ⟨rs, v, p⟩).2.addr, .int .u8 (st.step ⟨rs, v, p⟩).2.data, .int .u8 (st.step ⟨rs, v, p⟩).2.out]) ∧ Rep L (st.step ⟨rs, v, p⟩).1 w' ∧ Kept L.own w w' := by
  have hfr := hr.fresh
  obtain ⟨l1, l2, l3⟩ := hr.lt
  have HF : Hid (st.step ⟨rs, v, p⟩ = ({ st with inp := p, left := st.left - 1 }, ⟨0, 0, 0, 0⟩)) := by simp [Hid, St.step, St.supply, hv, hv2, hd, hr0, hl, hl1]
  have c_inp := hr.c_inp
  have f_inp := hr.f_inp
  have c_down := hr.c_down
  have f_down := hr.f_down
  have c_left := hr.c_left
  have f_left := hr.f_left
  have c_bank := hr.c_bank
  rw [hd] at c_down
  clear hd
  subst hr0
  rw [HF.out]
  have hq := hi.left
  have hl2 : (st.left - 1 == 0) = false := by simpa using hl1
  clear hl1
  go_enter Tryz.func34, Tryz.ntmps34
  go_wp2
  refine bodyPost_ret (v := .agg #[.int .i64 0, .int .i64 0, .int .u8 0, .int .u8 0]) (by simp [results, Tryz.results34, go_sem]) rfl ⟨rfl, ?r, ?k⟩
  case r =>
    apply Rep.as
    · (repeat (with_reducible first | apply Rep.alloc | apply Rep.drewN | apply Rep.drew | apply Rep.set_bank | apply Rep.set_s0 | apply Rep.set_s1 | apply Rep.set_cause | apply Rep.set_left | apply Rep.set_down | apply Rep.set_a | apply Rep.set_x | apply Rep.set_pc | apply Rep.set_zero | apply Rep.set_carry | apply Rep.set_op | apply Rep.set_opd | apply Rep.set_phase | apply Rep.set_period | apply Rep.set_count | apply Rep.set_flag | apply Rep.set_age | apply Rep.set_window | apply Rep.set_windowed | apply Rep.set_key | apply Rep.set_out | apply Rep.set_inp | apply Rep.set_opn | apply Rep.set_place | apply Rep.set_rst | (apply Rep.other; case hb => exact hfr _ (by omega)) | exact hr | exact hr1 | exact hr2 | exact hr3))
    · rfl
  case k => (repeat (with_reducible first | apply Kept.alloc | apply Kept.drewN | apply Kept.drew | apply Kept.rg | apply Kept.p | apply Kept.q | refine Kept.setCell ?_ (Or.inr (Nat.le_refl _)) _ | refine Kept.setCell ?_ (Or.inr (by omega)) _ | exact k1 | exact k2 | exact k3 | exact Kept.refl _ _))

set_option maxRecDepth 100000 in
set_option maxHeartbeats 1000000 in
theorem Rstep_mid_boot {L : Lay} {st : St} {w : World} (hr : Rep L st w) (hi : Inv st) (rs : Bool) (v p : Int) (hp0 : 0 ≤ p) (hp1 : p ≤ 255) (hv : ¬ v < 2700) (hv2 : ¬ 3000 ≤ v) (hd : st.down = false) (hr0 : rs = false) (hl : 0 < st.left) (hl1 : st.left - 1 = 0) :
    Calls Tryz.prog 34 #[.pointer (some ⟨L.g, 0, none⟩), .agg #[.bool rs, .int .i64 v, .int .u8 p]] w fun e w' => e = .returned (.agg #[.int .i64 (st.step ⟨rs, v, p⟩).2.kind, .int .i64 (st.step ⟨rs, v, p⟩).2.addr, .int .u8 (st.step ⟨rs, v, p⟩).2.data, .int .u8 (st.step ⟨rs, v, p⟩).2.out]) ∧ Rep L (st.step ⟨rs, v, p⟩).1 w' ∧ Kept L.own w w' := by
  have hfr := hr.fresh
  obtain ⟨l1, l2, l3⟩ := hr.lt
  have HF : Hid (st.step ⟨rs, v, p⟩ = (({ st with inp := p, left := st.left - 1 } : St).boot, ⟨0, 0, 0, 0⟩)) := by simp [Hid, St.step, St.supply, hv, hv2, hd, hr0, hl, hl1]
  have c_inp := hr.c_inp
  have f_inp := hr.f_inp
  have c_down := hr.c_down
  have f_down := hr.f_down
  have c_left := hr.c_left
  have f_left := hr.f_left
  have c_bank := hr.c_bank
  rw [hd] at c_down
  clear hd
  subst hr0
  rw [HF.out]
  have hq := hi.left
  have hl2 : (st.left - 1 == 0) = true := by simpa using hl1
  clear hl1
  go_enter Tryz.func34, Tryz.ntmps34
  go_wp2_with fail
  refine (Rboot_any (st := { st with inp := p, left := st.left - 1 }) ?hrep hi.b0 hi.b1).mono ?_
  case hrep =>
    apply Rep.as
    · (repeat (with_reducible first | apply Rep.alloc | apply Rep.drewN | apply Rep.drew | apply Rep.set_bank | apply Rep.set_s0 | apply Rep.set_s1 | apply Rep.set_cause | apply Rep.set_left | apply Rep.set_down | apply Rep.set_a | apply Rep.set_x | apply Rep.set_pc | apply Rep.set_zero | apply Rep.set_carry | apply Rep.set_op | apply Rep.set_opd | apply Rep.set_phase | apply Rep.set_period | apply Rep.set_count | apply Rep.set_flag | apply Rep.set_age | apply Rep.set_window | apply Rep.set_windowed | apply Rep.set_key | apply Rep.set_out | apply Rep.set_inp | apply Rep.set_opn | apply Rep.set_place | apply Rep.set_rst | (apply Rep.other; case hb => exact hfr _ (by omega)) | exact hr | exact hr1 | exact hr2 | exact hr3))
    · rfl
  rintro e w1 ⟨rfl, hr1, k1⟩
  obtain ⟨hc, hf⟩ := kcell k1 (b := w.heap.size + 1) (by simp) (hfr _ (by omega))
  have hz : w.heap.size + 1 < w1.heap.size := by have := k1.size; simp at this; omega
  have k2 : Kept L.own w w1 := by
    refine Kept.trans ?_ k1
    (repeat (with_reducible first | apply Kept.alloc | apply Kept.drewN | apply Kept.drew | apply Kept.rg | apply Kept.p | apply Kept.q | refine Kept.setCell ?_ (Or.inr (Nat.le_refl _)) _ | refine Kept.setCell ?_ (Or.inr (by omega)) _ | exact k1 | exact k2 | exact k3 | exact Kept.refl _ _))
  clear k1
  go_wp2
  refine bodyPost_ret (v := .agg #[.int .i64 0, .int .i64 0, .int .u8 0, .int .u8 0]) (by simp [results, Tryz.results34, go_sem, hc]) rfl ⟨rfl, ?r, ?k⟩
  case r =>
    apply Rep.as
    · (repeat (with_reducible first | apply Rep.alloc | apply Rep.drewN | apply Rep.drew | apply Rep.set_bank | apply Rep.set_s0 | apply Rep.set_s1 | apply Rep.set_cause | apply Rep.set_left | apply Rep.set_down | apply Rep.set_a | apply Rep.set_x | apply Rep.set_pc | apply Rep.set_zero | apply Rep.set_carry | apply Rep.set_op | apply Rep.set_opd | apply Rep.set_phase | apply Rep.set_period | apply Rep.set_count | apply Rep.set_flag | apply Rep.set_age | apply Rep.set_window | apply Rep.set_windowed | apply Rep.set_key | apply Rep.set_out | apply Rep.set_inp | apply Rep.set_opn | apply Rep.set_place | apply Rep.set_rst | (apply Rep.other; case hb => exact hfr _ (by omega)) | exact hr | exact hr1 | exact hr2 | exact hr3))
    · rfl
  case k => (repeat (with_reducible first | apply Kept.alloc | apply Kept.drewN | apply Kept.drew | apply Kept.rg | apply Kept.p | apply Kept.q | refine Kept.setCell ?_ (Or.inr (Nat.le_refl _)) _ | refine Kept.setCell ?_ (Or.inr (by omega)) _ | exact k1 | exact k2 | exact k3 | exact Kept.refl _ _))

set_option maxRecDepth 100000 in
set_option maxHeartbeats 1000000 in
theorem Rstep_mid_dead {L : Lay} {st : St} {w : World} (hr : Rep L st w) (hi : Inv st) (rs : Bool) (v p : Int) (hp0 : 0 ≤ p) (hp1 : p ≤ 255) (hv : ¬ v < 2700) (hv2 : ¬ 3000 ≤ v) (hd : st.down = false) (hr0 : rs = false) (hl : ¬ 0 < st.left) (hb : st.bank < 0) :
    Calls Tryz.prog 34 #[.pointer (some ⟨L.g, 0, none⟩), .agg #[.bool rs, .int .i64 v, .int .u8 p]] w fun e w' => e = .returned (.agg #[.int .i64 (st.step ⟨rs, v, p⟩).2.kind, .int .i64 (st.step ⟨rs, v, p⟩).2.addr, .int .u8 (st.step ⟨rs, v, p⟩).2.data, .int .u8 (st.step ⟨rs, v, p⟩).2.out]) ∧ Rep L (st.step ⟨rs, v, p⟩).1 w' ∧ Kept L.own w w' := by
  have hfr := hr.fresh
  obtain ⟨l1, l2, l3⟩ := hr.lt
  have HF : Hid (st.step ⟨rs, v, p⟩ = ({ st with inp := p }, ⟨1, 0, 0, 0⟩)) := by simp [Hid, St.step, St.supply, hv, hv2, hd, hr0, hl, hb]
  have c_inp := hr.c_inp
  have f_inp := hr.f_inp
  have c_down := hr.c_down
  have f_down := hr.f_down
  have c_left := hr.c_left
  have f_left := hr.f_left
  have c_bank := hr.c_bank
  rw [hd] at c_down
  clear hd
  subst hr0
  rw [HF.out]
  go_enter Tryz.func34, Tryz.ntmps34
  go_wp2
  refine bodyPost_ret (v := .agg #[.int .i64 1, .int .i64 0, .int .u8 0, .int .u8 0]) (by simp [results, Tryz.results34, go_sem]) rfl ⟨rfl, ?r, ?k⟩
  case r =>
    apply Rep.as
    · (repeat (with_reducible first | apply Rep.alloc | apply Rep.drewN | apply Rep.drew | apply Rep.set_bank | apply Rep.set_s0 | apply Rep.set_s1 | apply Rep.set_cause | apply Rep.set_left | apply Rep.set_down | apply Rep.set_a | apply Rep.set_x | apply Rep.set_pc | apply Rep.set_zero | apply Rep.set_carry | apply Rep.set_op | apply Rep.set_opd | apply Rep.set_phase | apply Rep.set_period | apply Rep.set_count | apply Rep.set_flag | apply Rep.set_age | apply Rep.set_window | apply Rep.set_windowed | apply Rep.set_key | apply Rep.set_out | apply Rep.set_inp | apply Rep.set_opn | apply Rep.set_place | apply Rep.set_rst | (apply Rep.other; case hb => exact hfr _ (by omega)) | exact hr | exact hr1 | exact hr2 | exact hr3))
    · rfl
  case k => (repeat (with_reducible first | apply Kept.alloc | apply Kept.drewN | apply Kept.drew | apply Kept.rg | apply Kept.p | apply Kept.q | refine Kept.setCell ?_ (Or.inr (Nat.le_refl _)) _ | refine Kept.setCell ?_ (Or.inr (by omega)) _ | exact k1 | exact k2 | exact k3 | exact Kept.refl _ _))

set_option maxRecDepth 100000 in
set_option maxHeartbeats 1000000 in
theorem Rstep_mid_runs {L : Lay} {st : St} {w : World} (hr : Rep L st w) (hi : Inv st) (rs : Bool) (v p : Int) (hp0 : 0 ≤ p) (hp1 : p ≤ 255) (hv : ¬ v < 2700) (hv2 : ¬ 3000 ≤ v) (hd : st.down = false) (hr0 : rs = false) (hl : ¬ 0 < st.left) (hb : ¬ st.bank < 0) :
    Calls Tryz.prog 34 #[.pointer (some ⟨L.g, 0, none⟩), .agg #[.bool rs, .int .i64 v, .int .u8 p]] w fun e w' => e = .returned (.agg #[.int .i64 (st.step ⟨rs, v, p⟩).2.kind, .int .i64 (st.step ⟨rs, v, p⟩).2.addr, .int .u8 (st.step ⟨rs, v, p⟩).2.data, .int .u8 (st.step ⟨rs, v, p⟩).2.out]) ∧ Rep L (st.step ⟨rs, v, p⟩).1 w' ∧ Kept L.own w w' := by
  have hfr := hr.fresh
  obtain ⟨l1, l2, l3⟩ := hr.lt
  have HF : Hid (st.step ⟨rs, v, p⟩ = ({ st with inp := p } : St).runs) := by simp [Hid, St.step, St.supply, hv, hv2, hd, hr0, hl, hb]
  have c_inp := hr.c_inp
  have f_inp := hr.f_inp
  have c_down := hr.c_down
  have f_down := hr.f_down
  have c_left := hr.c_left
  have f_left := hr.f_left
  have c_bank := hr.c_bank
  rw [hd] at c_down
  clear hd
  subst hr0
  rw [HF.out]
  have hq := hi.left
  have hiB : Inv { st with inp := p } := { hi with inp := ⟨hp0, hp1⟩ }
  go_enter Tryz.func34, Tryz.ntmps34
  go_wp2_with fail
  refine (Rruns_any (st := { st with inp := p }) ?hrep hiB (by show 0 ≤ st.bank; omega) (by show st.left = 0; omega)).mono ?_
  case hrep =>
    apply Rep.as
    · (repeat (with_reducible first | apply Rep.alloc | apply Rep.drewN | apply Rep.drew | apply Rep.set_bank | apply Rep.set_s0 | apply Rep.set_s1 | apply Rep.set_cause | apply Rep.set_left | apply Rep.set_down | apply Rep.set_a | apply Rep.set_x | apply Rep.set_pc | apply Rep.set_zero | apply Rep.set_carry | apply Rep.set_op | apply Rep.set_opd | apply Rep.set_phase | apply Rep.set_period | apply Rep.set_count | apply Rep.set_flag | apply Rep.set_age | apply Rep.set_window | apply Rep.set_windowed | apply Rep.set_key | apply Rep.set_out | apply Rep.set_inp | apply Rep.set_opn | apply Rep.set_place | apply Rep.set_rst | (apply Rep.other; case hb => exact hfr _ (by omega)) | exact hr | exact hr1 | exact hr2 | exact hr3))
    · rfl
  rintro e w1 ⟨rfl, hr1, k1⟩
  obtain ⟨hc, hf⟩ := kcell k1 (b := w.heap.size + 1) (by simp) (hfr _ (by omega))
  have hz : w.heap.size + 1 < w1.heap.size := by have := k1.size; simp at this; omega
  have k2 : Kept L.own w w1 := by
    refine Kept.trans ?_ k1
    (repeat (with_reducible first | apply Kept.alloc | apply Kept.drewN | apply Kept.drew | apply Kept.rg | apply Kept.p | apply Kept.q | refine Kept.setCell ?_ (Or.inr (Nat.le_refl _)) _ | refine Kept.setCell ?_ (Or.inr (by omega)) _ | exact k1 | exact k2 | exact k3 | exact Kept.refl _ _))
  clear k1
  go_wp2
  refine bodyPost_ret (v := .agg #[.int .i64 ({ st with inp := p } : St).runs.2.kind, .int .i64 ({ st with inp := p } : St).runs.2.addr, .int .u8 ({ st with inp := p } : St).runs.2.data, .int .u8 ({ st with inp := p } : St).runs.2.out]) (by simp [results, Tryz.results34, go_sem, hc]) rfl ⟨rfl, ?r, ?k⟩
  case r =>
    apply Rep.as
    · (repeat (with_reducible first | apply Rep.alloc | apply Rep.drewN | apply Rep.drew | apply Rep.set_bank | apply Rep.set_s0 | apply Rep.set_s1 | apply Rep.set_cause | apply Rep.set_left | apply Rep.set_down | apply Rep.set_a | apply Rep.set_x | apply Rep.set_pc | apply Rep.set_zero | apply Rep.set_carry | apply Rep.set_op | apply Rep.set_opd | apply Rep.set_phase | apply Rep.set_period | apply Rep.set_count | apply Rep.set_flag | apply Rep.set_age | apply Rep.set_window | apply Rep.set_windowed | apply Rep.set_key | apply Rep.set_out | apply Rep.set_inp | apply Rep.set_opn | apply Rep.set_place | apply Rep.set_rst | (apply Rep.other; case hb => exact hfr _ (by omega)) | exact hr | exact hr1 | exact hr2 | exact hr3))
    · rfl
  case k => (repeat (with_reducible first | apply Kept.alloc | apply Kept.drewN | apply Kept.drew | apply Kept.rg | apply Kept.p | apply Kept.q | refine Kept.setCell ?_ (Or.inr (Nat.le_refl _)) _ | refine Kept.setCell ?_ (Or.inr (by omega)) _ | exact k1 | exact k2 | exact k3 | exact Kept.refl _ _))

theorem Rstep_any {L : Lay} {st : St} {w : World} (hr : Rep L st w) (hi : Inv st) (rs : Bool) (v p : Int) (hp0 : 0 ≤ p) (hp1 : p ≤ 255) :
    Calls Tryz.prog 34 #[.pointer (some ⟨L.g, 0, none⟩), .agg #[.bool rs, .int .i64 v, .int .u8 p]] w fun e w' => e = .returned (.agg #[.int .i64 (st.step ⟨rs, v, p⟩).2.kind, .int .i64 (st.step ⟨rs, v, p⟩).2.addr, .int .u8 (st.step ⟨rs, v, p⟩).2.data, .int .u8 (st.step ⟨rs, v, p⟩).2.out]) ∧ Rep L (st.step ⟨rs, v, p⟩).1 w' ∧ Kept L.own w w' := by
  by_cases hv : v < 2700
  · exact Rstep_low_down hr hi rs v p hp0 hp1 hv
  by_cases hv2 : 3000 ≤ v
  · cases hr0 : rs
    · by_cases hl : 0 < st.left
      · by_cases hl1 : st.left - 1 = 0
        · exact Rstep_high_boot hr hi false v p hp0 hp1 hv hv2 rfl hl hl1
        · exact Rstep_high_more hr hi false v p hp0 hp1 hv hv2 rfl hl hl1
      · by_cases hb : st.bank < 0
        · exact Rstep_high_dead hr hi false v p hp0 hp1 hv hv2 rfl hl hb
        · exact Rstep_high_runs hr hi false v p hp0 hp1 hv hv2 rfl hl hb
    · exact Rstep_high_pin hr hi true v p hp0 hp1 hv hv2 rfl
  · cases hd : st.down
    · cases hr0 : rs
      · by_cases hl : 0 < st.left
        · by_cases hl1 : st.left - 1 = 0
          · exact Rstep_mid_boot hr hi false v p hp0 hp1 hv hv2 hd rfl hl hl1
          · exact Rstep_mid_more hr hi false v p hp0 hp1 hv hv2 hd rfl hl hl1
        · by_cases hb : st.bank < 0
          · exact Rstep_mid_dead hr hi false v p hp0 hp1 hv hv2 hd rfl hl hb
          · exact Rstep_mid_runs hr hi false v p hp0 hp1 hv hv2 hd rfl hl hb
      · exact Rstep_mid_pin hr hi true v p hp0 hp1 hv hv2 hd rfl
    · exact Rstep_mid_down hr hi rs v p hp0 hp1 hv hv2 hd


end Go.Proofs.YtikdbpphbdbdnaaGreat

/- The document's board: Tell, Image, Peek. -/
namespace Go.Proofs.YtikdbpphbdbdnaaGreat
open Go.RowKit
set_option linter.unusedVariables false

set_option maxRecDepth 100000 in
set_option maxHeartbeats 1000000 in
theorem Rtell_any {L : Lay} {st : St} {w : World} (hr : Rep L st w) :
    Calls Tryz.prog 37 #[.pointer (some ⟨L.g, 0, none⟩)] w fun e w' => e = .returned st.told ∧ Rep L st w' ∧ Kept L.own w w' := by
  have hfr := hr.fresh
  have hS : ∀ W : World, Rep L st W → W.cell? ⟨L.g, 136, none⟩ = some (.int .i64 st.a) ∧ W.cell? ⟨L.g, 137, none⟩ = some (.int .i64 st.x) ∧ W.cell? ⟨L.g, 138, none⟩ = some (.int .i64 st.pc) ∧ W.cell? ⟨L.g, 139, none⟩ = some (.bool st.zero) ∧ W.cell? ⟨L.g, 140, none⟩ = some (.bool st.carry) ∧ W.cell? ⟨L.g, 130, none⟩ = some (.int .i64 st.bank) ∧ W.cell? ⟨L.g, 131, none⟩ = some (.int .i64 st.s0) ∧ W.cell? ⟨L.g, 132, none⟩ = some (.int .i64 st.s1) ∧ W.cell? ⟨L.g, 133, none⟩ = some (.int .i64 st.cause) ∧ W.cell? ⟨L.g, 147, none⟩ = some (.int .i64 st.age) ∧ W.cell? ⟨L.g, 145, none⟩ = some (.int .i64 st.count) ∧ W.cell? ⟨L.g, 146, none⟩ = some (.bool st.flag) := fun W h => ⟨h.c_a, h.c_x, h.c_pc, h.c_zero, h.c_carry, h.c_bank, h.c_s0, h.c_s1, h.c_cause, h.c_age, h.c_count, h.c_flag⟩
  have l1 := hr.lt.1
  obtain ⟨q0, q1, q2, q3, q4, q5, q6, q7, q8, q9, q10, q11⟩ := hS w hr
  unfold St.told
  go_enter Tryz.func37, Tryz.ntmps37
  go_wp2
  go_region_held3 (fun W => W.cell? ⟨L.g, 136, none⟩ = some (.int .i64 st.a) ∧ W.cell? ⟨L.g, 137, none⟩ = some (.int .i64 st.x) ∧ W.cell? ⟨L.g, 138, none⟩ = some (.int .i64 st.pc) ∧ W.cell? ⟨L.g, 139, none⟩ = some (.bool st.zero) ∧ W.cell? ⟨L.g, 140, none⟩ = some (.bool st.carry) ∧ W.cell? ⟨L.g, 130, none⟩ = some (.int .i64 st.bank) ∧ W.cell? ⟨L.g, 131, none⟩ = some (.int .i64 st.s0) ∧ W.cell? ⟨L.g, 132, none⟩ = some (.int .i64 st.s1) ∧ W.cell? ⟨L.g, 133, none⟩ = some (.int .i64 st.cause) ∧ W.cell? ⟨L.g, 147, none⟩ = some (.int .i64 st.age) ∧ W.cell? ⟨L.g, 145, none⟩ = some (.int .i64 st.count) ∧ W.cell? ⟨L.g, 146, none⟩ = some (.bool st.flag)) (first | exact hS _ ((hr.alloc _).drew) | go_keep) (fail)
  go_wp2
  exact bodyPost_ret (v := .agg #[.int .i64 st.a, .int .i64 st.x, .int .i64 st.pc, .bool st.zero, .bool st.carry, .int .i64 st.bank, .int .i64 st.s0, .int .i64 st.s1, .int .i64 st.cause, .int .i64 st.age, .int .i64 st.count, .bool st.flag]) (by simp [results, Tryz.results37, go_sem]) rfl ⟨rfl, (hr.alloc _).drew, ((Kept.refl _ _).alloc _).drew⟩

set_option maxRecDepth 100000 in
set_option maxHeartbeats 1000000 in
theorem Rimage_no {L : Lay} {w : World} (k : Int) (hk : k < 0 ∨ 1 < k) :
    Calls Tryz.prog 39 #[.pointer (some ⟨L.g, 0, none⟩), .int .i64 k] w fun e w' => e = .returned (.tuple #[.string ByteArray.empty, .int .i64 3]) ∧ w' = w := by
  rcases hk with hk | hk
  · go_enter Tryz.func39, Tryz.ntmps39
    go_wp2
    go_ret2
    exact ⟨rfl, rfl⟩
  · have hk0 : ¬ k < 0 := by omega
    go_enter Tryz.func39, Tryz.ntmps39
    go_wp2
    go_ret2
    exact ⟨rfl, rfl⟩

set_option maxRecDepth 100000 in
set_option maxHeartbeats 1000000 in
theorem Rimage_0 {L : Lay} {st : St} {w : World} (hr : Rep L st w) (h0 : ∀ i, 0 ≤ st.b0 i ∧ st.b0 i ≤ 255) :
    Calls Tryz.prog 39 #[.pointer (some ⟨L.g, 0, none⟩), .int .i64 0] w fun e w' => e = .returned (.tuple #[.string (bankS st.b0), .int .i64 0]) ∧ w' = w := by
  have c1 := hr.c_p
  have hv := run_bank w L.p L.cp st.b0 h0 hr.r0
  go_enter Tryz.func39, Tryz.ntmps39
  go_wp2
  go_ret2
  exact ⟨rfl, rfl⟩

set_option maxRecDepth 100000 in
set_option maxHeartbeats 1000000 in
theorem Rimage_1 {L : Lay} {st : St} {w : World} (hr : Rep L st w) (h1 : ∀ i, 0 ≤ st.b1 i ∧ st.b1 i ≤ 255) :
    Calls Tryz.prog 39 #[.pointer (some ⟨L.g, 0, none⟩), .int .i64 1] w fun e w' => e = .returned (.tuple #[.string (bankS st.b1), .int .i64 0]) ∧ w' = w := by
  have c1 := hr.c_q
  have hv := run_bank w L.q L.cq st.b1 h1 hr.r1
  go_enter Tryz.func39, Tryz.ntmps39
  go_wp2
  go_ret2
  exact ⟨rfl, rfl⟩

set_option maxRecDepth 100000 in
set_option maxHeartbeats 1000000 in
theorem Rpeek_no {L : Lay} {w : World} (k : Int) (hk : k < 0 ∨ 127 < k) :
    Calls Tryz.prog 41 #[.pointer (some ⟨L.g, 0, none⟩), .int .i64 k] w fun e w' => e = .returned (.tuple #[.int .u8 0, .int .i64 3]) ∧ w' = w := by
  rcases hk with hk | hk
  · go_enter Tryz.func41, Tryz.ntmps41
    go_wp2
    go_ret2
    exact ⟨rfl, rfl⟩
  · have hk0 : ¬ k < 0 := by omega
    go_enter Tryz.func41, Tryz.ntmps41
    go_wp2
    go_ret2
    exact ⟨rfl, rfl⟩

set_option maxRecDepth 100000 in
set_option maxHeartbeats 1000000 in
theorem Rpeek_ok {L : Lay} {st : St} {w : World} (hr : Rep L st w) (k : Nat) (hk : k < 128) :
    Calls Tryz.prog 41 #[.pointer (some ⟨L.g, 0, none⟩), .int .i64 (k : Int)] w fun e w' => e = .returned (.tuple #[.int .u8 (st.mem k), .int .i64 0]) ∧ w' = w := by
  have c1 := hr.c_mem k hk
  have hk' : ¬ 127 < (k : Int) := by omega
  have hk2 : (k : Int) < 128 := by omega
  go_enter Tryz.func41, Tryz.ntmps41
  go_wp2
  go_ret2
  exact ⟨rfl, rfl⟩


end Go.Proofs.YtikdbpphbdbdnaaGreat

/- The document's board: New. -/
namespace Go.Proofs.YtikdbpphbdbdnaaGreat
open Go.RowKit
set_option linter.unusedVariables false

set_option maxRecDepth 100000 in
set_option maxHeartbeats 1000000 in
theorem Rnew_no1 (a b : ByteArray) (w : World) (h : ¬ a.size = 64) :
    Calls Tryz.prog 28 #[.string a, .string b] w fun e w' => e = .returned (.tuple #[.pointer none, .int .i64 1]) ∧ w' = w := by
  have h' : ((a.size : Int) != 64) = true := by rw [bne_iff_ne]; omega
  go_enter Tryz.func28, Tryz.ntmps28
  go_wp2
  go_ret2
  exact ⟨rfl, rfl⟩

set_option maxRecDepth 100000 in
set_option maxHeartbeats 1000000 in
theorem Rnew_no2 (a b : ByteArray) (w : World) (h : a.size = 64) (h2 : ¬ b.size = 64) :
    Calls Tryz.prog 28 #[.string a, .string b] w fun e w' => e = .returned (.tuple #[.pointer none, .int .i64 1]) ∧ w' = w := by
  have h' : ((b.size : Int) != 64) = true := by rw [bne_iff_ne]; omega
  go_enter Tryz.func28, Tryz.ntmps28
  go_wp2
  go_ret2
  exact ⟨rfl, rfl⟩

/-- The cells of a board of which nothing is set. -/
def zeroF : Nat → Value
  | 128 => .slice none 0 0
  | 129 => .slice none 0 0
  | 135 => .bool false
  | 139 => .bool false
  | 140 => .bool false
  | 146 => .bool false
  | 149 => .bool false
  | 150 => .bool false
  | 151 => .int .u8 0
  | 152 => .int .u8 0
  | 153 => .bool false
  | i => if i < 128 then .int .u8 0 else .int .i64 0

def zeroB : Array Value := ((List.range 156).map zeroF).toArray

theorem run_zero (w : World) : (zeroValue 98).run Tryz.prog w = .ok (.agg zeroB) w := by kernel_rfl

theorem zeroB_size : zeroB.size = 156 := by
  show (List.toArray _).size = 156
  rw [List.size_toArray]
  simp only [List.length_map, List.length_range]

theorem zeroB_at (i : Nat) (hi : i < 156) : zeroB[i]? = some (zeroF i) := by
  unfold zeroB
  rw [List.getElem?_toArray, List.getElem?_map, List.getElem?_range hi]
  rfl

/-- The cells of a new board (P, Q: its banks). -/
theorem new_cells (P Q : Value) (i : Nat) (hi : i < 156) :
    ((((((zeroB.setIfInBounds 130 (.int .i64 (-1))).setIfInBounds 133 (.int .i64 1)).setIfInBounds 134 (.int .i64 4)).setIfInBounds 128 P).setIfInBounds 129 Q))[i]? = some (if i = 129 then Q else if i = 128 then P else if i = 134 then .int .i64 4 else if i = 133 then .int .i64 1 else if i = 130 then .int .i64 (-1) else zeroF i) := by
  have hz := zeroB_size
  have hq := zeroB_at i hi
  simp only [Array.getElem?_setIfInBounds, Array.size_setIfInBounds, hz, hq]
  by_cases e1 : i = 129
  · subst e1; simp
  by_cases e2 : i = 128
  · subst e2; simp
  by_cases e3 : i = 134
  · subst e3; simp
  by_cases e4 : i = 133
  · subst e4; simp
  by_cases e5 : i = 130
  · subst e5; simp
  · simp [e1, e2, e3, e4, e5, Ne.symm e1, Ne.symm e2, Ne.symm e3, Ne.symm e4, Ne.symm e5]

theorem new_enc (L : Lay) (a b : ByteArray) (i : Nat) (hi : i < 156) :
    (if i = 129 then Value.slice (some ⟨L.q, 0, none⟩) 64 L.cq else if i = 128 then Value.slice (some ⟨L.p, 0, none⟩) 64 L.cp else if i = 134 then Value.int .i64 4 else if i = 133 then Value.int .i64 1 else if i = 130 then Value.int .i64 (-1) else zeroF i) = encF L (newSt a b) i := by
  by_cases h : i < 128
  · rw [if_neg (by omega), if_neg (by omega), if_neg (by omega), if_neg (by omega), if_neg (by omega)]
    have e1 : encF L (newSt a b) i = .int .u8 0 := by
      unfold encF
      split <;> first | omega | rfl
    have e2 : zeroF i = .int .u8 0 := by
      unfold zeroF
      split <;> first | omega | (rw [if_pos h])
    rw [e1, e2]
  · have h2 : i = 128 ∨ i = 129 ∨ i = 130 ∨ i = 131 ∨ i = 132 ∨ i = 133 ∨ i = 134 ∨ i = 135 ∨ i = 136 ∨ i = 137 ∨ i = 138 ∨ i = 139 ∨ i = 140 ∨ i = 141 ∨ i = 142 ∨ i = 143 ∨ i = 144 ∨ i = 145 ∨ i = 146 ∨ i = 147 ∨ i = 148 ∨ i = 149 ∨ i = 150 ∨ i = 151 ∨ i = 152 ∨ i = 153 ∨ i = 154 ∨ i = 155 := by omega
    rcases h2 with rfl | rfl | rfl | rfl | rfl | rfl | rfl | rfl | rfl | rfl | rfl | rfl | rfl | rfl | rfl | rfl | rfl | rfl | rfl | rfl | rfl | rfl | rfl | rfl | rfl | rfl | rfl | rfl
    all_goals rfl

theorem row_at (s : ByteArray) (c j : Nat) (hj : j < s.size) : (bytesRow s c)[j]? = some (.int .u8 (byteAt s j)) := by
  have hj' : j < s.data.size := hj
  unfold bytesRow byteAt
  rw [Array.getElem?_append_left (by simpa using hj')]
  simp only [Array.getElem?_map, Array.getElem?_eq_getElem hj', List.getD, Array.getElem?_toList, Option.map_some, Option.getD_some]

theorem row_size (s : ByteArray) (c : Nat) : s.size ≤ (bytesRow s c).size := by
  unfold bytesRow
  simp

theorem new_rep (w : World) (a b : ByteArray) (h : a.size = 64) (h2 : b.size = 64) (c1 c2 : Nat) :
    Rep ⟨w.heap.size, w.heap.size + 1, w.heap.size + 1 + 1, c1, c2⟩ (newSt a b) (((w.alloc (.cells ((((((zeroB.setIfInBounds 130 (.int .i64 (-1))).setIfInBounds 133 (.int .i64 1)).setIfInBounds 134 (.int .i64 4)).setIfInBounds 128 (.slice (some ⟨w.heap.size + 1, 0, none⟩) 64 c1)).setIfInBounds 129 (.slice (some ⟨w.heap.size + 1 + 1, 0, none⟩) 64 c2))) 98)).alloc (.cells (bytesRow a c1) 5 ((bytesRow a c1).size, (bytesRow a c1).size + 1))).alloc (.cells (bytesRow b c2) 5 ((bytesRow b c2).size, (bytesRow b c2).size + 1))) := by
  have s1 : ∀ o, (w.alloc o).heap.size = w.heap.size + 1 := fun o => World.size_alloc _ _
  have s2 : ∀ o o', ((w.alloc o).alloc o').heap.size = w.heap.size + 1 + 1 := fun o o' => by rw [World.size_alloc, World.size_alloc]
  have g0 : ∀ o o' o'', (((w.alloc o).alloc o').alloc o'').heap[w.heap.size]? = some o := fun o o' o'' => by
    rw [Below.heap_alloc _ _ _ (by rw [s2]; omega), Below.heap_alloc _ _ _ (by rw [s1]; omega), heap_new]
  have g1 : ∀ o o' o'', (((w.alloc o).alloc o').alloc o'').heap[w.heap.size + 1]? = some o' := fun o o' o'' => by
    rw [Below.heap_alloc _ _ _ (by rw [s2]; omega), ← s1 o, heap_new]
  have g2 : ∀ o o' o'', (((w.alloc o).alloc o').alloc o'').heap[w.heap.size + 1 + 1]? = some o'' := fun o o' o'' => by
    rw [← s2 o o', heap_new]
  refine ⟨fun i hi => ⟨?_, ?_⟩, fun i hi => ⟨?_, ?_⟩, fun i hi => ⟨?_, ?_⟩, by show ¬ _; simp, by show ¬ _; simp; omega, by show ¬ _; simp⟩
  · simp only [World.cell?, g0]
    rw [if_neg (by simp), new_cells _ _ i hi]
    exact congrArg some (new_enc ⟨w.heap.size, w.heap.size + 1, w.heap.size + 1 + 1, c1, c2⟩ a b i hi)
  · simp [World.frozen?, g0]
  · simp only [World.cell?, g1]
    rw [if_neg (by simp), row_at a c1 i (by omega)]
    rfl
  · simp only [World.frozen?, g1]
    have := row_size a c1
    simp
    omega
  · simp only [World.cell?, g2]
    rw [if_neg (by simp), row_at b c2 i (by omega)]
    rfl
  · simp only [World.frozen?, g2]
    have := row_size b c2
    simp
    omega

set_option maxRecDepth 100000 in
set_option maxHeartbeats 1000000 in
theorem Rnew_ok (a b : ByteArray) (w : World) (h : a.size = 64) (h2 : b.size = 64) :
    Calls Tryz.prog 28 #[.string a, .string b] w fun e w' => ∃ L : Lay, e = .returned (.tuple #[.pointer (some ⟨L.g, 0, none⟩), .int .i64 0]) ∧ Rep L (newSt a b) w' ∧ Below w.heap.size w w' ∧ w.heap.size ≤ L.g ∧ w.heap.size ≤ L.p ∧ w.heap.size ≤ L.q := by
  have hz := run_zero
  have hzs := zeroB_size
  have q128 : zeroB[128]? = some (.slice none 0 0) := zeroB_at 128 (by omega)
  have q129 : zeroB[129]? = some (.slice none 0 0) := zeroB_at 129 (by omega)
  have hcv := fun W s => run_bytes_of_string (P := Tryz.prog) W 9 72 5 s Tryz.underlying9 Tryz.underlying72 Tryz.underlying5
  go_enter Tryz.func28, Tryz.ntmps28
  go_wp2
  go_ret2
  refine ⟨⟨w.heap.size, w.heap.size + 1, w.heap.size + 1 + 1, _, _⟩, rfl, (new_rep w a b h h2 _ _).drew.drew, ?_, Nat.le_refl _, ?_, ?_⟩
  · exact ((((Below.refl _ w).alloc (Nat.le_refl _) _).alloc (by simp) _).alloc (by simp; omega) _).drew.drew
  · show w.heap.size ≤ w.heap.size + 1
    omega
  · show w.heap.size ≤ w.heap.size + 1 + 1
    omega

end Go.Proofs.YtikdbpphbdbdnaaGreat
