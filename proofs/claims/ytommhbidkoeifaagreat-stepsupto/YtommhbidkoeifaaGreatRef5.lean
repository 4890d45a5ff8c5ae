/- The document's board: the next byte; instructions of one, two and three cycles. -/
import Derived.Test.YtommhbidkoeifaaGreatRef4
namespace Go.Proofs.YtommhbidkoeifaaGreat
open Go.RowKit

theorem Rep.fresh {L : Lay} {st : St} {w : World} (h : Rep L st w) (n : Nat) (hn : w.heap.size ≤ n) : ¬ L.own n := by
  obtain ⟨h1, h2, h3⟩ := h.lt
  intro e
  rcases e with e | e | e <;> omega

set_option maxRecDepth 100000 in
set_option maxHeartbeats 400000 in
theorem Rnext_any {L : Lay} {st : St} {w : World} (hr : Rep L st w) (hi : Inv st) (hb : 0 ≤ st.bank) (k : Int) :
    Calls Tryz.prog 64 #[.pointer (some ⟨L.g, 0, none⟩), .int .i64 k] w fun e w' => e = .returned (.agg #[.int .i64 k, .int .i64 st.pc, .int .u8 (st.read st.pc), .int .u8 0]) ∧ Rep L (st.next k).1 w' ∧ Kept L.own w w' := by
  have hlt := hr.lt
  have hfr := hr.fresh
  obtain ⟨p0, p1⟩ := hi.pc
  have c1 := hr.c_pc
  have f1 := hr.f_pc
  obtain ⟨l1, _, _⟩ := hlt
  go_enter Tryz.func64, Tryz.ntmps64
  go_wp2_with fail
  refine (Rread_any (hr.alloc _) hi hb st.pc p0).mono ?_
  rintro e w1 ⟨rfl, nq, rfl⟩
  go_wp2
  refine bodyPost_ret (v := .agg #[.int .i64 k, .int .i64 st.pc, .int .u8 (st.read st.pc), .int .u8 0]) (by simp [results, Tryz.results64, go_sem]) rfl ⟨rfl, ?r, ?k⟩
  case r =>
    apply Rep.as
    · (repeat (with_reducible first | apply Rep.alloc | apply Rep.drewN | apply Rep.drew | apply Rep.set_bank | apply Rep.set_s0 | apply Rep.set_s1 | apply Rep.set_cause | apply Rep.set_left | apply Rep.set_down | apply Rep.set_a | apply Rep.set_x | apply Rep.set_pc | apply Rep.set_zero | apply Rep.set_carry | apply Rep.set_op | apply Rep.set_opd | apply Rep.set_phase | apply Rep.set_period | apply Rep.set_count | apply Rep.set_flag | apply Rep.set_age | apply Rep.set_window | apply Rep.set_windowed | apply Rep.set_key | apply Rep.set_out | apply Rep.set_inp | apply Rep.set_opn | apply Rep.set_place | apply Rep.set_rst | (apply Rep.other; case hb => exact hfr _ (by omega)) | exact hr | exact hr1 | exact hr2 | exact hr3))
    · rfl
  case k => (repeat (with_reducible first | apply Kept.alloc | apply Kept.drewN | apply Kept.drew | apply Kept.rg | apply Kept.p | apply Kept.q | refine Kept.setCell ?_ (Or.inr (Nat.le_refl _)) _ | refine Kept.setCell ?_ (Or.inr (by omega)) _ | exact k1 | exact k2 | exact k3 | exact Kept.refl _ _))

set_option maxRecDepth 100000 in
set_option maxHeartbeats 400000 in
theorem Ralone_11 {L : Lay} {st : St} {w : World} (hr : Rep L st w) (hi : Inv st) :
    Calls Tryz.prog 68 #[.pointer (some ⟨L.g, 0, none⟩), .int .i64 11] w fun e w' => e = .returned (.tuple #[]) ∧ Rep L (st.alone 11) w' ∧ Kept L.own w w' := by
  obtain ⟨b0, b1⟩ := hi.a
  have c1 := hr.c_a
  go_enter Tryz.func68, Tryz.ntmps68
  go_wp2_with fail
  refine (RsetX_any hr st.a (by omega) (by omega)).mono ?_
  rintro e w1 ⟨rfl, hr1, k1⟩
  go_wp2
  (first | go_end0 | refine bodyPost_ret (results_none rfl _ _ _) rfl ?_)
  exact ⟨rfl, hr1, k1⟩

set_option maxRecDepth 100000 in
set_option maxHeartbeats 400000 in
theorem Ralone_12 {L : Lay} {st : St} {w : World} (hr : Rep L st w) (hi : Inv st) :
    Calls Tryz.prog 68 #[.pointer (some ⟨L.g, 0, none⟩), .int .i64 12] w fun e w' => e = .returned (.tuple #[]) ∧ Rep L (st.alone 12) w' ∧ Kept L.own w w' := by
  obtain ⟨b0, b1⟩ := hi.x
  have c1 := hr.c_x
  go_enter Tryz.func68, Tryz.ntmps68
  go_wp2_with fail
  refine (Rset_any hr st.x (by omega) (by omega)).mono ?_
  rintro e w1 ⟨rfl, hr1, k1⟩
  go_wp2
  (first | go_end0 | refine bodyPost_ret (results_none rfl _ _ _) rfl ?_)
  exact ⟨rfl, hr1, k1⟩

set_option maxRecDepth 100000 in
set_option maxHeartbeats 400000 in
theorem Ralone_13 {L : Lay} {st : St} {w : World} (hr : Rep L st w) (hi : Inv st) :
    Calls Tryz.prog 68 #[.pointer (some ⟨L.g, 0, none⟩), .int .i64 13] w fun e w' => e = .returned (.tuple #[]) ∧ Rep L (st.alone 13) w' ∧ Kept L.own w w' := by
  obtain ⟨b0, b1⟩ := hi.x
  have c1 := hr.c_x
  go_enter Tryz.func68, Tryz.ntmps68
  go_wp2_with fail
  refine (RsetX_any hr (st.x + 1) (by omega) (by omega)).mono ?_
  rintro e w1 ⟨rfl, hr1, k1⟩
  go_wp2
  (first | go_end0 | refine bodyPost_ret (results_none rfl _ _ _) rfl ?_)
  exact ⟨rfl, hr1, k1⟩

set_option maxRecDepth 100000 in
set_option maxHeartbeats 400000 in
theorem Ralone_14 {L : Lay} {st : St} {w : World} (hr : Rep L st w) (hi : Inv st) :
    Calls Tryz.prog 68 #[.pointer (some ⟨L.g, 0, none⟩), .int .i64 14] w fun e w' => e = .returned (.tuple #[]) ∧ Rep L (st.alone 14) w' ∧ Kept L.own w w' := by
  obtain ⟨b0, b1⟩ := hi.x
  have c1 := hr.c_x
  go_enter Tryz.func68, Tryz.ntmps68
  go_wp2_with fail
  refine (RsetX_any hr (st.x - 1) (by omega) (by omega)).mono ?_
  rintro e w1 ⟨rfl, hr1, k1⟩
  go_wp2
  (first | go_end0 | refine bodyPost_ret (results_none rfl _ _ _) rfl ?_)
  exact ⟨rfl, hr1, k1⟩

set_option maxRecDepth 100000 in
set_option maxHeartbeats 400000 in
theorem Ralone_24 {L : Lay} {st : St} {w : World} (hr : Rep L st w) :
    Calls Tryz.prog 68 #[.pointer (some ⟨L.g, 0, none⟩), .int .i64 24] w fun e w' => e = .returned (.tuple #[]) ∧ Rep L (st.alone 24) w' ∧ Kept L.own w w' := by
  have c1 := hr.c_phase
  have f1 := hr.f_phase
  go_enter Tryz.func68, Tryz.ntmps68
  go_wp2
  (first | go_end0 | refine bodyPost_ret (results_none rfl _ _ _) rfl ?_)
  exact ⟨rfl, (hr.set_phase _).as rfl, (Kept.refl _ _).rg _ _⟩

set_option maxRecDepth 100000 in
set_option maxHeartbeats 400000 in
theorem Ralone_no {L : Lay} {st : St} {w : World} (hr : Rep L st w) (op : Int) (h1 : (op == 11) = false) (h2 : (op == 12) = false) (h3 : (op == 13) = false) (h4 : (op == 14) = false) (h5 : (op == 24) = false) :
    Calls Tryz.prog 68 #[.pointer (some ⟨L.g, 0, none⟩), .int .i64 op] w fun e w' => e = .returned (.tuple #[]) ∧ Rep L (st.alone op) w' ∧ Kept L.own w w' := by
  have HF : Hid (st.alone op = st) := by
    simp only [beq_eq_false_iff_ne, ne_eq] at h1 h2 h3 h4 h5
    simp [Hid, St.alone, h1, h2, h3, h4, h5]
  go_enter Tryz.func68, Tryz.ntmps68
  go_wp2
  (first | go_end0 | refine bodyPost_ret (results_none rfl _ _ _) rfl ?_)
  exact ⟨rfl, hr.as HF.out.symm, Kept.refl _ _⟩

theorem Ralone_any {L : Lay} {st : St} {w : World} (hr : Rep L st w) (hi : Inv st) (op : Int) :
    Calls Tryz.prog 68 #[.pointer (some ⟨L.g, 0, none⟩), .int .i64 op] w fun e w' => e = .returned (.tuple #[]) ∧ Rep L (st.alone op) w' ∧ Kept L.own w w' := by
  by_cases h1 : op = 11
  · subst h1; exact Ralone_11 hr hi
  by_cases h2 : op = 12
  · subst h2; exact Ralone_12 hr hi
  by_cases h3 : op = 13
  · subst h3; exact Ralone_13 hr hi
  by_cases h4 : op = 14
  · subst h4; exact Ralone_14 hr hi
  by_cases h5 : op = 24
  · subst h5; exact Ralone_24 hr
  · exact Ralone_no hr op (by simpa using h1) (by simpa using h2) (by simpa using h3) (by simpa using h4) (by simpa using h5)

set_option maxRecDepth 100000 in
set_option maxHeartbeats 400000 in
theorem Rjumps_1 {L : Lay} {st : St} {w : World} (hr : Rep L st w) (n : Int) (h0 : 0 ≤ n) (h1 : n ≤ 255) :
    Calls Tryz.prog 66 #[.pointer (some ⟨L.g, 0, none⟩), .int .i64 1, .int .i64 n] w fun e w' => e = .returned (.tuple #[]) ∧ Rep L (st.jumps 1 n) w' ∧ Kept L.own w w' := by
  go_enter Tryz.func66, Tryz.ntmps66
  go_wp2_with fail
  refine (Rset_any hr n (by omega) (by omega)).mono ?_
  rintro e w1 ⟨rfl, hr1, k1⟩
  go_wp2
  (first | go_end0 | refine bodyPost_ret (results_none rfl _ _ _) rfl ?_)
  exact ⟨rfl, hr1.as rfl, k1⟩

set_option maxRecDepth 100000 in
set_option maxHeartbeats 400000 in
theorem Rjumps_16 {L : Lay} {st : St} {w : World} (hr : Rep L st w) (n : Int) :
    Calls Tryz.prog 66 #[.pointer (some ⟨L.g, 0, none⟩), .int .i64 16, .int .i64 n] w fun e w' => e = .returned (.tuple #[]) ∧ Rep L (st.jumps 16 n) w' ∧ Kept L.own w w' := by
  have HF : Hid (st.jumps 16 n = { st with pc := n }) := by simp [Hid, St.jumps, St.goes]
  have c2 := hr.c_pc
  have f2 := hr.f_pc
  go_enter Tryz.func66, Tryz.ntmps66
  go_wp2
  (first | go_end0 | refine bodyPost_ret (results_none rfl _ _ _) rfl ?_)
  exact ⟨rfl, (hr.set_pc _).as HF.out.symm, (Kept.refl _ _).rg _ _⟩

set_option maxRecDepth 100000 in
set_option maxHeartbeats 400000 in
theorem Rjumps_17_t {L : Lay} {st : St} {w : World} (hr : Rep L st w) (n : Int) (hf : st.zero = true) :
    Calls Tryz.prog 66 #[.pointer (some ⟨L.g, 0, none⟩), .int .i64 17, .int .i64 n] w fun e w' => e = .returned (.tuple #[]) ∧ Rep L (st.jumps 17 n) w' ∧ Kept L.own w w' := by
  have HF : Hid (st.jumps 17 n = { st with pc := n }) := by simp [Hid, St.jumps, St.goes, hf]
  have c1 := hr.c_zero
  rw [hf] at c1
  clear hf
  have c2 := hr.c_pc
  have f2 := hr.f_pc
  go_enter Tryz.func66, Tryz.ntmps66
  go_wp2
  (first | go_end0 | refine bodyPost_ret (results_none rfl _ _ _) rfl ?_)
  exact ⟨rfl, (hr.set_pc _).as HF.out.symm, (Kept.refl _ _).rg _ _⟩

set_option maxRecDepth 100000 in
set_option maxHeartbeats 400000 in
theorem Rjumps_17_f {L : Lay} {st : St} {w : World} (hr : Rep L st w) (n : Int) (hf : st.zero = false) :
    Calls Tryz.prog 66 #[.pointer (some ⟨L.g, 0, none⟩), .int .i64 17, .int .i64 n] w fun e w' => e = .returned (.tuple #[]) ∧ Rep L (st.jumps 17 n) w' ∧ Kept L.own w w' := by
  have HF : Hid (st.jumps 17 n = st) := by simp [Hid, St.jumps, St.goes, hf]
  have c1 := hr.c_zero
  rw [hf] at c1
  clear hf
  go_enter Tryz.func66, Tryz.ntmps66
  go_wp2
  (first | go_end0 | refine bodyPost_ret (results_none rfl _ _ _) rfl ?_)
  exact ⟨rfl, hr.as HF.out.symm, Kept.refl _ _⟩

set_option maxRecDepth 100000 in
set_option maxHeartbeats 400000 in
theorem Rjumps_18_t {L : Lay} {st : St} {w : World} (hr : Rep L st w) (n : Int) (hf : st.zero = true) :
    Calls Tryz.prog 66 #[.pointer (some ⟨L.g, 0, none⟩), .int .i64 18, .int .i64 n] w fun e w' => e = .returned (.tuple #[]) ∧ Rep L (st.jumps 18 n) w' ∧ Kept L.own w w' := by
  have HF : Hid (st.jumps 18 n = st) := by simp [Hid, St.jumps, St.goes, hf]
  have c1 := hr.c_zero
  rw [hf] at c1
  clear hf
  go_enter Tryz.func66, Tryz.ntmps66
  go_wp2
  (first | go_end0 | refine bodyPost_ret (results_none rfl _ _ _) rfl ?_)
  exact ⟨rfl, hr.as HF.out.symm, Kept.refl _ _⟩

set_option maxRecDepth 100000 in
set_option maxHeartbeats 400000 in
theorem Rjumps_18_f {L : Lay} {st : St} {w : World} (hr : Rep L st w) (n : Int) (hf : st.zero = false) :
    Calls Tryz.prog 66 #[.pointer (some ⟨L.g, 0, none⟩), .int .i64 18, .int .i64 n] w fun e w' => e = .returned (.tuple #[]) ∧ Rep L (st.jumps 18 n) w' ∧ Kept L.own w w' := by
  have HF : Hid (st.jumps 18 n = { st with pc := n }) := by simp [Hid, St.jumps, St.goes, hf]
  have c1 := hr.c_zero
  rw [hf] at c1
  clear hf
  have c2 := hr.c_pc
  have f2 := hr.f_pc
  go_enter Tryz.func66, Tryz.ntmps66
  go_wp2
  (first | go_end0 | refine bodyPost_ret (results_none rfl _ _ _) rfl ?_)
  exact ⟨rfl, (hr.set_pc _).as HF.out.symm, (Kept.refl _ _).rg _ _⟩

set_option maxRecDepth 100000 in
set_option maxHeartbeats 400000 in
theorem Rjumps_19_t {L : Lay} {st : St} {w : World} (hr : Rep L st w) (n : Int) (hf : st.carry = true) :
    Calls Tryz.prog 66 #[.pointer (some ⟨L.g, 0, none⟩), .int .i64 19, .int .i64 n] w fun e w' => e = .returned (.tuple #[]) ∧ Rep L (st.jumps 19 n) w' ∧ Kept L.own w w' := by
  have HF : Hid (st.jumps 19 n = { st with pc := n }) := by simp [Hid, St.jumps, St.goes, hf]
  have c1 := hr.c_carry
  rw [hf] at c1
  clear hf
  have c2 := hr.c_pc
  have f2 := hr.f_pc
  go_enter Tryz.func66, Tryz.ntmps66
  go_wp2
  (first | go_end0 | refine bodyPost_ret (results_none rfl _ _ _) rfl ?_)
  exact ⟨rfl, (hr.set_pc _).as HF.out.symm, (Kept.refl _ _).rg _ _⟩

set_option maxRecDepth 100000 in
set_option maxHeartbeats 400000 in
theorem Rjumps_19_f {L : Lay} {st : St} {w : World} (hr : Rep L st w) (n : Int) (hf : st.carry = false) :
    Calls Tryz.prog 66 #[.pointer (some ⟨L.g, 0, none⟩), .int .i64 19, .int .i64 n] w fun e w' => e = .returned (.tuple #[]) ∧ Rep L (st.jumps 19 n) w' ∧ Kept L.own w w' := by
  have HF : Hid (st.jumps 19 n = st) := by simp [Hid, St.jumps, St.goes, hf]
  have c1 := hr.c_carry
  rw [hf] at c1
  clear hf
  go_enter Tryz.func66, Tryz.ntmps66
  go_wp2
  (first | go_end0 | refine bodyPost_ret (results_none rfl _ _ _) rfl ?_)
  exact ⟨rfl, hr.as HF.out.symm, Kept.refl _ _⟩

set_option maxRecDepth 100000 in
set_option maxHeartbeats 400000 in
theorem Rjumps_20_t {L : Lay} {st : St} {w : World} (hr : Rep L st w) (n : Int) (hf : st.carry = true) :
    Calls Tryz.prog 66 #[.pointer (some ⟨L.g, 0, none⟩), .int .i64 20, .int .i64 n] w fun e w' => e = .returned (.tuple #[]) ∧ Rep L (st.jumps 20 n) w' ∧ Kept L.own w w' := by
  have HF : Hid (st.jumps 20 n = st) := by simp [Hid, St.jumps, St.goes, hf]
  have c1 := hr.c_carry
  rw [hf] at c1
  clear hf
  go_enter Tryz.func66, Tryz.ntmps66
  go_wp2
  (first | go_end0 | refine bodyPost_ret (results_none rfl _ _ _) rfl ?_)
  exact ⟨rfl, hr.as HF.out.symm, Kept.refl _ _⟩

set_option maxRecDepth 100000 in
set_option maxHeartbeats 400000 in
theorem Rjumps_20_f {L : Lay} {st : St} {w : World} (hr : Rep L st w) (n : Int) (hf : st.carry = false) :
    Calls Tryz.prog 66 #[.pointer (some ⟨L.g, 0, none⟩), .int .i64 20, .int .i64 n] w fun e w' => e = .returned (.tuple #[]) ∧ Rep L (st.jumps 20 n) w' ∧ Kept L.own w w' := by
  have HF : Hid (st.jumps 20 n = { st with pc := n }) := by simp [Hid, St.jumps, St.goes, hf]
  have c1 := hr.c_carry
  rw [hf] at c1
  clear hf
  have c2 := hr.c_pc
  have f2 := hr.f_pc
  go_enter Tryz.func66, Tryz.ntmps66
  go_wp2
  (first | go_end0 | refine bodyPost_ret (results_none rfl _ _ _) rfl ?_)
  exact ⟨rfl, (hr.set_pc _).as HF.out.symm, (Kept.refl _ _).rg _ _⟩

set_option maxRecDepth 100000 in
set_option maxHeartbeats 400000 in
theorem Rjumps_no {L : Lay} {st : St} {w : World} (hr : Rep L st w) (n op : Int) (h1 : (op == 1) = false) (h2 : (op == 16) = false) (h3 : (op == 17) = false) (h4 : (op == 18) = false) (h5 : (op == 19) = false) (h6 : (op == 20) = false) :
    Calls Tryz.prog 66 #[.pointer (some ⟨L.g, 0, none⟩), .int .i64 op, .int .i64 n] w fun e w' => e = .returned (.tuple #[]) ∧ Rep L (st.jumps op n) w' ∧ Kept L.own w w' := by
  have HF : Hid (st.jumps op n = st) := by
    have h1' : ¬ op = 1 := by simpa using h1
    simp [Hid, St.jumps, St.goes, h1', h2, h3, h4, h5, h6]
  go_enter Tryz.func66, Tryz.ntmps66
  go_wp2
  (first | go_end0 | refine bodyPost_ret (results_none rfl _ _ _) rfl ?_)
  exact ⟨rfl, hr.as HF.out.symm, Kept.refl _ _⟩

theorem Rjumps_any {L : Lay} {st : St} {w : World} (hr : Rep L st w) (op n : Int) (h0 : 0 ≤ n) (h1 : n ≤ 255) :
    Calls Tryz.prog 66 #[.pointer (some ⟨L.g, 0, none⟩), .int .i64 op, .int .i64 n] w fun e w' => e = .returned (.tuple #[]) ∧ Rep L (st.jumps op n) w' ∧ Kept L.own w w' := by
  by_cases e1 : op = 1
  · subst e1; exact Rjumps_1 hr n h0 h1
  by_cases e2 : op = 16
  · subst e2; exact Rjumps_16 hr n
  by_cases e3 : op = 17
  · subst e3
    cases hf : st.zero
    · exact Rjumps_17_f hr n hf
    · exact Rjumps_17_t hr n hf
  by_cases e4 : op = 18
  · subst e4
    cases hf : st.zero
    · exact Rjumps_18_f hr n hf
    · exact Rjumps_18_t hr n hf
  by_cases e5 : op = 19
  · subst e5
    cases hf : st.carry
    · exact Rjumps_19_f hr n hf
    · exact Rjumps_19_t hr n hf
  by_cases e6 : op = 20
  · subst e6
    cases hf : st.carry
    · exact Rjumps_20_f hr n hf
    · exact Rjumps_20_t hr n hf
  · exact Rjumps_no hr n op (by simpa using e1) (by simpa using e2) (by simpa using e3) (by simpa using e4) (by simpa using e5) (by simpa using e6)


end Go.Proofs.YtommhbidkoeifaaGreat
