/- The document's board: the boot. -/
import Derived.Test.YtommhbidkoeifaaGreatRef8
import Derived.Deep.RegionHeld3
namespace Go.Proofs.YtommhbidkoeifaaGreat
open Go.RowKit
set_option linter.unusedVariables false

set_option maxRecDepth 100000 in
set_option maxHeartbeats 2000000 in
theorem Rboot_new {L : Lay} {st : St} {w : World} (hr : Rep L st w) (h0 : ∀ i, 0 ≤ st.b0 i ∧ st.b0 i ≤ 255) (h1 : ∀ i, 0 ≤ st.b1 i ∧ st.b1 i ≤ 255) (ha : anewB (bankS st.b0) (bankS st.b1) st.s0 st.s1 = true) :
    Calls Tryz.prog 47 #[.pointer (some ⟨L.g, 0, none⟩)] w fun e w' => e = .returned (.tuple #[]) ∧ Rep L st.boot w' ∧ Kept L.own w w' := by
  have HF : Hid (st.boot = { st with s0 := 0, s1 := 0, bank := chooseB (bankS st.b0) (bankS st.b1) st.s0 st.s1, a := 0, x := 0, pc := 130, zero := false, carry := false, phase := 0, period := 0, count := 0, flag := false, age := 0, window := 0, windowed := false, key := false, out := 0, opn := false, place := 0 }) := by simp [Hid, St.boot, ha]
  have HA : Hid (anewB (bankS st.b0) (bankS st.b1) st.s0 st.s1 = true) := ha
  clear ha
  have c1 := hr.c_p
  have c2 := hr.c_q
  have c3 := hr.c_s0
  have c4 := hr.c_s1
  have hfr := hr.fresh
  have l1 := hr.lt.1
  obtain ⟨s0, es0⟩ : ∃ s0, s0 = bankS st.b0 := ⟨_, rfl⟩
  obtain ⟨s1, es1⟩ : ∃ s1, s1 = bankS st.b1 := ⟨_, rfl⟩
  rw [← es0, ← es1] at HF HA
  have hm0 : s0.size ≤ maxLen := by rw [es0, bankS_size]; unfold maxLen; omega
  have hm1 : s1.size ≤ maxLen := by rw [es1, bankS_size]; unfold maxLen; omega
  have hS : ∀ W : World, Below w.drew.heap.size w.drew W → W.cell? ⟨L.g, 128, none⟩ = some (.slice (some ⟨L.p, 0, none⟩) 64 L.cp) ∧ W.cell? ⟨L.g, 129, none⟩ = some (.slice (some ⟨L.q, 0, none⟩) 64 L.cq) ∧ W.cell? ⟨L.g, 131, none⟩ = some (.int .i64 st.s0) ∧ W.cell? ⟨L.g, 132, none⟩ = some (.int .i64 st.s1) ∧ (convert 72 9 (.slice (some ⟨L.p, 0, none⟩) 64 L.cp)).run Tryz.prog W = .ok (.string s0) W ∧ (convert 72 9 (.slice (some ⟨L.q, 0, none⟩) 64 L.cq)).run Tryz.prog W = .ok (.string s1) W := fun W hW => by
    have hrW : Rep L st W := (hr.drew).below hW
    exact ⟨hrW.c_p, hrW.c_q, hrW.c_s0, hrW.c_s1, by rw [es0]; exact run_bank W L.p L.cp st.b0 h0 hrW.r0, by rw [es1]; exact run_bank W L.q L.cq st.b1 h1 hrW.r1⟩
  clear es0 es1
  have HC : Hid _ := rChoose_any s0 s1 st.s0 st.s1 w.drew hm0 hm1
  go_enter Tryz.func47, Tryz.ntmps47
  go_wp2
  go_region_held3 (fun W => W.cell? ⟨L.g, 128, none⟩ = some (.slice (some ⟨L.p, 0, none⟩) 64 L.cp) ∧ W.cell? ⟨L.g, 129, none⟩ = some (.slice (some ⟨L.q, 0, none⟩) 64 L.cq) ∧ W.cell? ⟨L.g, 131, none⟩ = some (.int .i64 st.s0) ∧ W.cell? ⟨L.g, 132, none⟩ = some (.int .i64 st.s1) ∧ (convert 72 9 (.slice (some ⟨L.p, 0, none⟩) 64 L.cp)).run Tryz.prog W = .ok (.string s0) W ∧ (convert 72 9 (.slice (some ⟨L.q, 0, none⟩) 64 L.cq)).run Tryz.prog W = .ok (.string s1) W) (first | exact hS _ (by assumption) | exact hS _ (Below.refl _ _)) (first | (go_at_call 24; refine Calls.mono HC.out ?_; rintro e w1 ⟨rfl, b1⟩))
  rw [HA.out]
  have hr1 : Rep L st w1 := (hr.drew).below b1
  have k1 : Kept L.own w w1 := ((Kept.refl L.own w).drew).trans (Kept.below b1)
  clear hS c1 c2 c3 c4
  have c_s0 := hr1.c_s0
  have f_s0 := hr1.f_s0
  have c_s1 := hr1.c_s1
  have f_s1 := hr1.f_s1
  have c_bank := hr1.c_bank
  have f_bank := hr1.f_bank
  have c_a := hr1.c_a
  have f_a := hr1.f_a
  have c_x := hr1.c_x
  have f_x := hr1.f_x
  have c_pc := hr1.c_pc
  have f_pc := hr1.f_pc
  have c_zero := hr1.c_zero
  have f_zero := hr1.f_zero
  have c_carry := hr1.c_carry
  have f_carry := hr1.f_carry
  have c_phase := hr1.c_phase
  have f_phase := hr1.f_phase
  have c_period := hr1.c_period
  have f_period := hr1.f_period
  have c_count := hr1.c_count
  have f_count := hr1.f_count
  have c_flag := hr1.c_flag
  have f_flag := hr1.f_flag
  have c_age := hr1.c_age
  have f_age := hr1.f_age
  have c_window := hr1.c_window
  have f_window := hr1.f_window
  have c_windowed := hr1.c_windowed
  have f_windowed := hr1.f_windowed
  have c_key := hr1.c_key
  have f_key := hr1.f_key
  have c_out := hr1.c_out
  have f_out := hr1.f_out
  have c_opn := hr1.c_opn
  have f_opn := hr1.f_opn
  have c_place := hr1.c_place
  have f_place := hr1.f_place
  go_wp2
  (first | go_end0 | refine bodyPost_ret (results_none rfl _ _ _) rfl ?_)
  refine ⟨rfl, ?r, ?k⟩
  case r =>
    rw [HF.out]
    apply Rep.as
    · (repeat (with_reducible first | apply Rep.alloc | apply Rep.drewN | apply Rep.drew | apply Rep.set_bank | apply Rep.set_s0 | apply Rep.set_s1 | apply Rep.set_cause | apply Rep.set_left | apply Rep.set_down | apply Rep.set_a | apply Rep.set_x | apply Rep.set_pc | apply Rep.set_zero | apply Rep.set_carry | apply Rep.set_op | apply Rep.set_opd | apply Rep.set_phase | apply Rep.set_period | apply Rep.set_count | apply Rep.set_flag | apply Rep.set_age | apply Rep.set_window | apply Rep.set_windowed | apply Rep.set_key | apply Rep.set_out | apply Rep.set_inp | apply Rep.set_opn | apply Rep.set_place | apply Rep.set_rst | (apply Rep.other; case hb => exact hfr _ (by omega)) | exact hr | exact hr1 | exact hr2 | exact hr3))
    · rfl
  case k => (repeat (with_reducible first | apply Kept.alloc | apply Kept.drewN | apply Kept.drew | apply Kept.rg | apply Kept.p | apply Kept.q | refine Kept.setCell ?_ (Or.inr (Nat.le_refl _)) _ | refine Kept.setCell ?_ (Or.inr (by omega)) _ | exact k1 | exact k2 | exact k3 | exact Kept.refl _ _))

set_option maxRecDepth 100000 in
set_option maxHeartbeats 2000000 in
theorem Rboot_old {L : Lay} {st : St} {w : World} (hr : Rep L st w) (h0 : ∀ i, 0 ≤ st.b0 i ∧ st.b0 i ≤ 255) (h1 : ∀ i, 0 ≤ st.b1 i ∧ st.b1 i ≤ 255) (ha : anewB (bankS st.b0) (bankS st.b1) st.s0 st.s1 = false) :
    Calls Tryz.prog 47 #[.pointer (some ⟨L.g, 0, none⟩)] w fun e w' => e = .returned (.tuple #[]) ∧ Rep L st.boot w' ∧ Kept L.own w w' := by
  have HF : Hid (st.boot = { st with bank := chooseB (bankS st.b0) (bankS st.b1) st.s0 st.s1, a := 0, x := 0, pc := 130, zero := false, carry := false, phase := 0, period := 0, count := 0, flag := false, age := 0, window := 0, windowed := false, key := false, out := 0, opn := false, place := 0 }) := by simp [Hid, St.boot, ha]
  have HA : Hid (anewB (bankS st.b0) (bankS st.b1) st.s0 st.s1 = false) := ha
  clear ha
  have c1 := hr.c_p
  have c2 := hr.c_q
  have c3 := hr.c_s0
  have c4 := hr.c_s1
  have hfr := hr.fresh
  have l1 := hr.lt.1
  obtain ⟨s0, es0⟩ : ∃ s0, s0 = bankS st.b0 := ⟨_, rfl⟩
  obtain ⟨s1, es1⟩ : ∃ s1, s1 = bankS st.b1 := ⟨_, rfl⟩
  rw [← es0, ← es1] at HF HA
  have hm0 : s0.size ≤ maxLen := by rw [es0, bankS_size]; unfold maxLen; omega
  have hm1 : s1.size ≤ maxLen := by rw [es1, bankS_size]; unfold maxLen; omega
  have hS : ∀ W : World, Below w.drew.heap.size w.drew W → W.cell? ⟨L.g, 128, none⟩ = some (.slice (some ⟨L.p, 0, none⟩) 64 L.cp) ∧ W.cell? ⟨L.g, 129, none⟩ = some (.slice (some ⟨L.q, 0, none⟩) 64 L.cq) ∧ W.cell? ⟨L.g, 131, none⟩ = some (.int .i64 st.s0) ∧ W.cell? ⟨L.g, 132, none⟩ = some (.int .i64 st.s1) ∧ (convert 72 9 (.slice (some ⟨L.p, 0, none⟩) 64 L.cp)).run Tryz.prog W = .ok (.string s0) W ∧ (convert 72 9 (.slice (some ⟨L.q, 0, none⟩) 64 L.cq)).run Tryz.prog W = .ok (.string s1) W := fun W hW => by
    have hrW : Rep L st W := (hr.drew).below hW
    exact ⟨hrW.c_p, hrW.c_q, hrW.c_s0, hrW.c_s1, by rw [es0]; exact run_bank W L.p L.cp st.b0 h0 hrW.r0, by rw [es1]; exact run_bank W L.q L.cq st.b1 h1 hrW.r1⟩
  clear es0 es1
  have HC : Hid _ := rChoose_any s0 s1 st.s0 st.s1 w.drew hm0 hm1
  go_enter Tryz.func47, Tryz.ntmps47
  go_wp2
  go_region_held3 (fun W => W.cell? ⟨L.g, 128, none⟩ = some (.slice (some ⟨L.p, 0, none⟩) 64 L.cp) ∧ W.cell? ⟨L.g, 129, none⟩ = some (.slice (some ⟨L.q, 0, none⟩) 64 L.cq) ∧ W.cell? ⟨L.g, 131, none⟩ = some (.int .i64 st.s0) ∧ W.cell? ⟨L.g, 132, none⟩ = some (.int .i64 st.s1) ∧ (convert 72 9 (.slice (some ⟨L.p, 0, none⟩) 64 L.cp)).run Tryz.prog W = .ok (.string s0) W ∧ (convert 72 9 (.slice (some ⟨L.q, 0, none⟩) 64 L.cq)).run Tryz.prog W = .ok (.string s1) W) (first | exact hS _ (by assumption) | exact hS _ (Below.refl _ _)) (first | (go_at_call 24; refine Calls.mono HC.out ?_; rintro e w1 ⟨rfl, b1⟩))
  rw [HA.out]
  have hr1 : Rep L st w1 := (hr.drew).below b1
  have k1 : Kept L.own w w1 := ((Kept.refl L.own w).drew).trans (Kept.below b1)
  clear hS c1 c2 c3 c4
  have c_bank := hr1.c_bank
  have f_bank := hr1.f_bank
  have c_a := hr1.c_a
  have f_a := hr1.f_a
  have c_x := hr1.c_x
  have f_x := hr1.f_x
  have c_pc := hr1.c_pc
  have f_pc := hr1.f_pc
  have c_zero := hr1.c_zero
  have f_zero := hr1.f_zero
  have c_carry := hr1.c_carry
  have f_carry := hr1.f_carry
  have c_phase := hr1.c_phase
  have f_phase := hr1.f_phase
  have c_period := hr1.c_period
  have f_period := hr1.f_period
  have c_count := hr1.c_count
  have f_count := hr1.f_count
  have c_flag := hr1.c_flag
  have f_flag := hr1.f_flag
  have c_age := hr1.c_age
  have f_age := hr1.f_age
  have c_window := hr1.c_window
  have f_window := hr1.f_window
  have c_windowed := hr1.c_windowed
  have f_windowed := hr1.f_windowed
  have c_key := hr1.c_key
  have f_key := hr1.f_key
  have c_out := hr1.c_out
  have f_out := hr1.f_out
  have c_opn := hr1.c_opn
  have f_opn := hr1.f_opn
  have c_place := hr1.c_place
  have f_place := hr1.f_place
  go_wp2
  (first | go_end0 | refine bodyPost_ret (results_none rfl _ _ _) rfl ?_)
  refine ⟨rfl, ?r, ?k⟩
  case r =>
    rw [HF.out]
    apply Rep.as
    · (repeat (with_reducible first | apply Rep.alloc | apply Rep.drewN | apply Rep.drew | apply Rep.set_bank | apply Rep.set_s0 | apply Rep.set_s1 | apply Rep.set_cause | apply Rep.set_left | apply Rep.set_down | apply Rep.set_a | apply Rep.set_x | apply Rep.set_pc | apply Rep.set_zero | apply Rep.set_carry | apply Rep.set_op | apply Rep.set_opd | apply Rep.set_phase | apply Rep.set_period | apply Rep.set_count | apply Rep.set_flag | apply Rep.set_age | apply Rep.set_window | apply Rep.set_windowed | apply Rep.set_key | apply Rep.set_out | apply Rep.set_inp | apply Rep.set_opn | apply Rep.set_place | apply Rep.set_rst | (apply Rep.other; case hb => exact hfr _ (by omega)) | exact hr | exact hr1 | exact hr2 | exact hr3))
    · rfl
  case k => (repeat (with_reducible first | apply Kept.alloc | apply Kept.drewN | apply Kept.drew | apply Kept.rg | apply Kept.p | apply Kept.q | refine Kept.setCell ?_ (Or.inr (Nat.le_refl _)) _ | refine Kept.setCell ?_ (Or.inr (by omega)) _ | exact k1 | exact k2 | exact k3 | exact Kept.refl _ _))

theorem Rboot_any {L : Lay} {st : St} {w : World} (hr : Rep L st w) (h0 : ∀ i, 0 ≤ st.b0 i ∧ st.b0 i ≤ 255) (h1 : ∀ i, 0 ≤ st.b1 i ∧ st.b1 i ≤ 255) :
    Calls Tryz.prog 47 #[.pointer (some ⟨L.g, 0, none⟩)] w fun e w' => e = .returned (.tuple #[]) ∧ Rep L st.boot w' ∧ Kept L.own w w' := by
  cases ha : anewB (bankS st.b0) (bankS st.b1) st.s0 st.s1
  · exact Rboot_old hr h0 h1 ha
  · exact Rboot_new hr h0 h1 ha


end Go.Proofs.YtommhbidkoeifaaGreat
