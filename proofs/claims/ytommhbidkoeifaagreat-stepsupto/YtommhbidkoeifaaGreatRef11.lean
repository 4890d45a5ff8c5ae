/- The document's board: Tell, Image, Peek. -/
import Derived.Test.YtommhbidkoeifaaGreatRef10
namespace Go.Proofs.YtommhbidkoeifaaGreat
open Go.RowKit
set_option linter.unusedVariables false

set_option maxRecDepth 100000 in
set_option maxHeartbeats 1000000 in
theorem Rtell_any {L : Lay} {st : St} {w : World} (hr : Rep L st w) :
    Calls Tryz.prog 35 #[.pointer (some ⟨L.g, 0, none⟩)] w fun e w' => e = .returned st.told ∧ Rep L st w' ∧ Kept L.own w w' := by
  have hfr := hr.fresh
  have hS : ∀ W : World, Rep L st W → W.cell? ⟨L.g, 136, none⟩ = some (.int .i64 st.a) ∧ W.cell? ⟨L.g, 137, none⟩ = some (.int .i64 st.x) ∧ W.cell? ⟨L.g, 138, none⟩ = some (.int .i64 st.pc) ∧ W.cell? ⟨L.g, 139, none⟩ = some (.bool st.zero) ∧ W.cell? ⟨L.g, 140, none⟩ = some (.bool st.carry) ∧ W.cell? ⟨L.g, 130, none⟩ = some (.int .i64 st.bank) ∧ W.cell? ⟨L.g, 131, none⟩ = some (.int .i64 st.s0) ∧ W.cell? ⟨L.g, 132, none⟩ = some (.int .i64 st.s1) ∧ W.cell? ⟨L.g, 133, none⟩ = some (.int .i64 st.cause) ∧ W.cell? ⟨L.g, 147, none⟩ = some (.int .i64 st.age) ∧ W.cell? ⟨L.g, 145, none⟩ = some (.int .i64 st.count) ∧ W.cell? ⟨L.g, 146, none⟩ = some (.bool st.flag) := fun W h => ⟨h.c_a, h.c_x, h.c_pc, h.c_zero, h.c_carry, h.c_bank, h.c_s0, h.c_s1, h.c_cause, h.c_age, h.c_count, h.c_flag⟩
  have l1 := hr.lt.1
  obtain ⟨q0, q1, q2, q3, q4, q5, q6, q7, q8, q9, q10, q11⟩ := hS w hr
  unfold St.told
  go_enter Tryz.func35, Tryz.ntmps35
  go_wp2
  go_region_held3 (fun W => W.cell? ⟨L.g, 136, none⟩ = some (.int .i64 st.a) ∧ W.cell? ⟨L.g, 137, none⟩ = some (.int .i64 st.x) ∧ W.cell? ⟨L.g, 138, none⟩ = some (.int .i64 st.pc) ∧ W.cell? ⟨L.g, 139, none⟩ = some (.bool st.zero) ∧ W.cell? ⟨L.g, 140, none⟩ = some (.bool st.carry) ∧ W.cell? ⟨L.g, 130, none⟩ = some (.int .i64 st.bank) ∧ W.cell? ⟨L.g, 131, none⟩ = some (.int .i64 st.s0) ∧ W.cell? ⟨L.g, 132, none⟩ = some (.int .i64 st.s1) ∧ W.cell? ⟨L.g, 133, none⟩ = some (.int .i64 st.cause) ∧ W.cell? ⟨L.g, 147, none⟩ = some (.int .i64 st.age) ∧ W.cell? ⟨L.g, 145, none⟩ = some (.int .i64 st.count) ∧ W.cell? ⟨L.g, 146, none⟩ = some (.bool st.flag)) (first | exact hS _ ((hr.alloc _).drew) | go_keep) (fail)
  go_wp2
  exact bodyPost_ret (v := .agg #[.int .i64 st.a, .int .i64 st.x, .int .i64 st.pc, .bool st.zero, .bool st.carry, .int .i64 st.bank, .int .i64 st.s0, .int .i64 st.s1, .int .i64 st.cause, .int .i64 st.age, .int .i64 st.count, .bool st.flag]) (by simp [results, Tryz.results35, go_sem]) rfl ⟨rfl, (hr.alloc _).drew, ((Kept.refl _ _).alloc _).drew⟩

set_option maxRecDepth 100000 in
set_option maxHeartbeats 1000000 in
theorem Rimage_no {L : Lay} {w : World} (k : Int) (hk : k < 0 ∨ 1 < k) :
    Calls Tryz.prog 37 #[.pointer (some ⟨L.g, 0, none⟩), .int .i64 k] w fun e w' => e = .returned (.tuple #[.string ByteArray.empty, .int .i64 3]) ∧ w' = w := by
  rcases hk with hk | hk
  · go_enter Tryz.func37, Tryz.ntmps37
    go_wp2
    go_ret2
    exact ⟨rfl, rfl⟩
  · have hk0 : ¬ k < 0 := by omega
    go_enter Tryz.func37, Tryz.ntmps37
    go_wp2
    go_ret2
    exact ⟨rfl, rfl⟩

set_option maxRecDepth 100000 in
set_option maxHeartbeats 1000000 in
theorem Rimage_0 {L : Lay} {st : St} {w : World} (hr : Rep L st w) (h0 : ∀ i, 0 ≤ st.b0 i ∧ st.b0 i ≤ 255) :
    Calls Tryz.prog 37 #[.pointer (some ⟨L.g, 0, none⟩), .int .i64 0] w fun e w' => e = .returned (.tuple #[.string (bankS st.b0), .int .i64 0]) ∧ w' = w := by
  have c1 := hr.c_p
  have hv := run_bank w L.p L.cp st.b0 h0 hr.r0
  go_enter Tryz.func37, Tryz.ntmps37
  go_wp2
  go_ret2
  exact ⟨rfl, rfl⟩

set_option maxRecDepth 100000 in
set_option maxHeartbeats 1000000 in
theorem Rimage_1 {L : Lay} {st : St} {w : World} (hr : Rep L st w) (h1 : ∀ i, 0 ≤ st.b1 i ∧ st.b1 i ≤ 255) :
    Calls Tryz.prog 37 #[.pointer (some ⟨L.g, 0, none⟩), .int .i64 1] w fun e w' => e = .returned (.tuple #[.string (bankS st.b1), .int .i64 0]) ∧ w' = w := by
  have c1 := hr.c_q
  have hv := run_bank w L.q L.cq st.b1 h1 hr.r1
  go_enter Tryz.func37, Tryz.ntmps37
  go_wp2
  go_ret2
  exact ⟨rfl, rfl⟩

set_option maxRecDepth 100000 in
set_option maxHeartbeats 1000000 in
theorem Rpeek_no {L : Lay} {w : World} (k : Int) (hk : k < 0 ∨ 127 < k) :
    Calls Tryz.prog 39 #[.pointer (some ⟨L.g, 0, none⟩), .int .i64 k] w fun e w' => e = .returned (.tuple #[.int .u8 0, .int .i64 3]) ∧ w' = w := by
  rcases hk with hk | hk
  · go_enter Tryz.func39, Tryz.ntmps39
    go_wp2
    go_ret2
    exact ⟨rfl, rfl⟩
  · have hk0 : ¬ k < 0 := by omega
    go_enter Tryz.func39, Tryz.ntmps39
    go_wp2
    go_ret2
    exact ⟨rfl, rfl⟩

set_option maxRecDepth 100000 in
set_option maxHeartbeats 1000000 in
theorem Rpeek_ok {L : Lay} {st : St} {w : World} (hr : Rep L st w) (k : Nat) (hk : k < 128) :
    Calls Tryz.prog 39 #[.pointer (some ⟨L.g, 0, none⟩), .int .i64 (k : Int)] w fun e w' => e = .returned (.tuple #[.int .u8 (st.mem k), .int .i64 0]) ∧ w' = w := by
  have c1 := hr.c_mem k hk
  have hk' : ¬ 127 < (k : Int) := by omega
  have hk2 : (k : Int) < 128 := by omega
  go_enter Tryz.func39, Tryz.ntmps39
  go_wp2
  go_ret2
  exact ⟨rfl, rfl⟩


end Go.Proofs.YtommhbidkoeifaaGreat
