/- Of several texts, one behind the other. -/
import Derived.Test.YtikdbpphbdbdnaaGreatRa
import Derived.Test.YtikdbpphbdbdnaaGreatBa
/- The document's board: what is written; how long an instruction is; instructions of one and two cycles; the next byte. -/
namespace Go.Proofs.YtikdbpphbdbdnaaGreat
open Go.RowKit

set_option maxRecDepth 100000 in
set_option maxHeartbeats 400000 in
theorem Rw_mem {L : Lay} {st : St} {w : World} (hr : Rep L st w) (v : Int) (k : Nat) (hk : k < 128) :
    Calls Tryz.prog 82 #[.pointer (some ⟨L.g, 0, none⟩), .int .i64 (k : Int), .int .u8 v] w fun e w' => e = .returned (.tuple #[]) ∧ Rep L (st.write k v) w' ∧ Kept L.own w w' := by
  have HF : Hid (st.write k v = { st with mem := upd st.mem k v }) := by
    have h1 : (k : Int) < 128 := by omega
    simp [Hid, St.write, h1]
  have c1 := hr.c_mem k hk
  have f1 := hr.fz k (by omega)
  have hk' : (k : Int) < 128 := by omega
  go_enter Tryz.func82, Tryz.ntmps82
  go_wp2
  (first | go_end0 | refine bodyPost_ret (results_none rfl _ _ _) rfl ?_)
  exact ⟨rfl, (hr.set_mem k hk _).as HF.out.symm, (Kept.refl _ _).rg _ _⟩

set_option maxRecDepth 100000 in
set_option maxHeartbeats 400000 in
theorem Rw_period {L : Lay} {st : St} {w : World} (hr : Rep L st w) (v : Int) (h0 : 0 ≤ v) (h1 : v ≤ 255) :
    Calls Tryz.prog 82 #[.pointer (some ⟨L.g, 0, none⟩), .int .i64 192, .int .u8 v] w fun e w' => e = .returned (.tuple #[]) ∧ Rep L (st.write 192 v) w' ∧ Kept L.own w w' := by
  have HF : Hid (st.write 192 v = { st with period := v, count := v, flag := false }) := by simp [Hid, St.write]
  have c1 := hr.c_period
  have f1 := hr.f_period
  have c2 := hr.c_count
  have f2 := hr.f_count
  have c3 := hr.c_flag
  have f3 := hr.f_flag
  go_enter Tryz.func82, Tryz.ntmps82
  go_wp2
  (first | go_end0 | refine bodyPost_ret (results_none rfl _ _ _) rfl ?_)
  exact ⟨rfl, (((hr.set_period _).set_count _).set_flag _).as HF.out.symm, (((Kept.refl _ _).rg _ _).rg _ _).rg _ _⟩

set_option maxRecDepth 100000 in
set_option maxHeartbeats 400000 in
theorem Rw_flag {L : Lay} {st : St} {w : World} (hr : Rep L st w) (v : Int) :
    Calls Tryz.prog 82 #[.pointer (some ⟨L.g, 0, none⟩), .int .i64 194, .int .u8 v] w fun e w' => e = .returned (.tuple #[]) ∧ Rep L (st.write 194 v) w' ∧ Kept L.own w w' := by
  have HF : Hid (st.write 194 v = { st with flag := false }) := by simp [Hid, St.write]
  have c3 := hr.c_flag
  have f3 := hr.f_flag
  go_enter Tryz.func82, Tryz.ntmps82
  go_wp2
  (first | go_end0 | refine bodyPost_ret (results_none rfl _ _ _) rfl ?_)
  exact ⟨rfl, (hr.set_flag _).as HF.out.symm, (Kept.refl _ _).rg _ _⟩

set_option maxRecDepth 100000 in
set_option maxHeartbeats 400000 in
theorem Rw_keys {L : Lay} {st : St} {w : World} (hr : Rep L st w) (v : Int) (hb : st.bank = 0 ∨ st.bank = 1) :
    Calls Tryz.prog 82 #[.pointer (some ⟨L.g, 0, none⟩), .int .i64 195, .int .u8 v] w fun e w' => e = .returned (.tuple #[]) ∧ Rep L (st.write 195 v) w' ∧ Kept L.own w w' := by
  have HF : Hid (st.write 195 v = st.keys v) := by simp [Hid, St.write]
  go_enter Tryz.func82, Tryz.ntmps82
  go_wp2_with fail
  refine (Rkeys_any hr hb v).mono ?_
  rintro e w1 ⟨rfl, hr1, k1⟩
  go_wp2
  (first | go_end0 | refine bodyPost_ret (results_none rfl _ _ _) rfl ?_)
  exact ⟨rfl, hr1.as HF.out.symm, k1⟩

set_option maxRecDepth 100000 in
set_option maxHeartbeats 400000 in
theorem Rw_window {L : Lay} {st : St} {w : World} (hr : Rep L st w) (v : Int) (h0 : 0 ≤ v) (h1 : v ≤ 200) (hw : st.windowed = false) :
    Calls Tryz.prog 82 #[.pointer (some ⟨L.g, 0, none⟩), .int .i64 196, .int .u8 v] w fun e w' => e = .returned (.tuple #[]) ∧ Rep L (st.write 196 v) w' ∧ Kept L.own w w' := by
  have HF : Hid (st.write 196 v = { st with window := v, windowed := true }) := by simp [Hid, St.write, hw, h1]
  have c1 := hr.c_windowed
  rw [hw] at c1
  have f1 := hr.f_windowed
  have c2 := hr.c_window
  have f2 := hr.f_window
  clear hw
  go_enter Tryz.func82, Tryz.ntmps82
  go_wp2
  (first | go_end0 | refine bodyPost_ret (results_none rfl _ _ _) rfl ?_)
  exact ⟨rfl, ((hr.set_window _).set_windowed _).as HF.out.symm, ((Kept.refl _ _).rg _ _).rg _ _⟩

set_option maxRecDepth 100000 in
set_option maxHeartbeats 400000 in
theorem Rw_wide {L : Lay} {st : St} {w : World} (hr : Rep L st w) (v : Int) (h1 : 200 < v) (hw : st.windowed = false) :
    Calls Tryz.prog 82 #[.pointer (some ⟨L.g, 0, none⟩), .int .i64 196, .int .u8 v] w fun e w' => e = .returned (.tuple #[]) ∧ Rep L (st.write 196 v) w' ∧ Kept L.own w w' := by
  have HF : Hid (st.write 196 v = st) := by
    have h2 : ¬ v ≤ 200 := by omega
    simp [Hid, St.write, hw, h2]
  have c1 := hr.c_windowed
  rw [hw] at c1
  clear hw
  go_enter Tryz.func82, Tryz.ntmps82
  go_wp2
  (first | go_end0 | refine bodyPost_ret (results_none rfl _ _ _) rfl ?_)
  exact ⟨rfl, hr.as HF.out.symm, Kept.refl _ _⟩

set_option maxRecDepth 100000 in
set_option maxHeartbeats 400000 in
theorem Rw_again {L : Lay} {st : St} {w : World} (hr : Rep L st w) (v : Int) (hw : st.windowed = true) :
    Calls Tryz.prog 82 #[.pointer (some ⟨L.g, 0, none⟩), .int .i64 196, .int .u8 v] w fun e w' => e = .returned (.tuple #[]) ∧ Rep L (st.write 196 v) w' ∧ Kept L.own w w' := by
  have HF : Hid (st.write 196 v = st) := by simp [Hid, St.write, hw]
  have c1 := hr.c_windowed
  rw [hw] at c1
  clear hw
  go_enter Tryz.func82, Tryz.ntmps82
  go_wp2
  (first | go_end0 | refine bodyPost_ret (results_none rfl _ _ _) rfl ?_)
  exact ⟨rfl, hr.as HF.out.symm, Kept.refl _ _⟩

set_option maxRecDepth 100000 in
set_option maxHeartbeats 400000 in
theorem Rw_out {L : Lay} {st : St} {w : World} (hr : Rep L st w) (v : Int) :
    Calls Tryz.prog 82 #[.pointer (some ⟨L.g, 0, none⟩), .int .i64 197, .int .u8 v] w fun e w' => e = .returned (.tuple #[]) ∧ Rep L (st.write 197 v) w' ∧ Kept L.own w w' := by
  have HF : Hid (st.write 197 v = { st with out := v }) := by simp [Hid, St.write]
  have c1 := hr.c_out
  have f1 := hr.f_out
  go_enter Tryz.func82, Tryz.ntmps82
  go_wp2
  (first | go_end0 | refine bodyPost_ret (results_none rfl _ _ _) rfl ?_)
  exact ⟨rfl, (hr.set_out _).as HF.out.symm, (Kept.refl _ _).rg _ _⟩

set_option maxRecDepth 100000 in
set_option maxHeartbeats 400000 in
theorem Rw_upd {L : Lay} {st : St} {w : World} (hr : Rep L st w) (v : Int) (a : Int) (ha : 199 ≤ a) (hi : Inv st) (hb : st.bank = 0 ∨ st.bank = 1) (h0 : 0 ≤ v) (h1 : v ≤ 255) :
    Calls Tryz.prog 82 #[.pointer (some ⟨L.g, 0, none⟩), .int .i64 a, .int .u8 v] w fun e w' => e = .returned (.tuple #[]) ∧ Rep L (st.write a v) w' ∧ Kept L.own w w' := by
  have HF : Hid (st.write a v = st.updates a v) := by
    unfold St.write Hid
    rw [if_neg (by omega), if_neg (by omega), if_neg (by omega), if_neg (by omega), if_neg (by omega), if_neg (by omega), if_pos ha]
  have e1 : (a == 192) = false := beq_eq_false_iff_ne.2 (by omega)
  have e2 : (a == 194) = false := beq_eq_false_iff_ne.2 (by omega)
  have e3 : (a == 195) = false := beq_eq_false_iff_ne.2 (by omega)
  have e4 : (a == 196) = false := beq_eq_false_iff_ne.2 (by omega)
  have e5 : (a == 197) = false := beq_eq_false_iff_ne.2 (by omega)
  go_enter Tryz.func82, Tryz.ntmps82
  go_wp2_with fail
  refine (Rupdates_any hr hi hb a v h0 h1).mono ?_
  rintro e w1 ⟨rfl, hr1, k1⟩
  go_wp2
  (first | go_end0 | refine bodyPost_ret (results_none rfl _ _ _) rfl ?_)
  exact ⟨rfl, hr1.as HF.out.symm, k1⟩

set_option maxRecDepth 100000 in
set_option maxHeartbeats 400000 in
theorem Rw_none {L : Lay} {st : St} {w : World} (hr : Rep L st w) (v : Int) (a : Int) (h : (128 ≤ a ∧ a < 192) ∨ a = 193 ∨ a = 198) :
    Calls Tryz.prog 82 #[.pointer (some ⟨L.g, 0, none⟩), .int .i64 a, .int .u8 v] w fun e w' => e = .returned (.tuple #[]) ∧ Rep L (st.write a v) w' ∧ Kept L.own w w' := by
  have HF : Hid (st.write a v = st) := by
    unfold St.write Hid
    rw [if_neg (by omega), if_neg (by omega), if_neg (by omega), if_neg (by omega), if_neg (by omega), if_neg (by omega), if_neg (by omega)]
  have e1 : (a == 192) = false := beq_eq_false_iff_ne.2 (by omega)
  have e2 : (a == 194) = false := beq_eq_false_iff_ne.2 (by omega)
  have e3 : (a == 195) = false := beq_eq_false_iff_ne.2 (by omega)
  have e4 : (a == 196) = false := beq_eq_false_iff_ne.2 (by omega)
  have e5 : (a == 197) = false := beq_eq_false_iff_ne.2 (by omega)
  have e6 : 128 ≤ a := by omega
  have e7 : a < 199 := by omega
  clear h
  go_enter Tryz.func82, Tryz.ntmps82
  go_wp2
  (first | go_end0 | refine bodyPost_ret (results_none rfl _ _ _) rfl ?_)
  exact ⟨rfl, hr.as HF.out.symm, Kept.refl _ _⟩

theorem Rwrite_any {L : Lay} {st : St} {w : World} (hr : Rep L st w) (hi : Inv st) (hb : st.bank = 0 ∨ st.bank = 1) (a v : Int) (ha : 0 ≤ a) (h0 : 0 ≤ v) (h1 : v ≤ 255) :
    Calls Tryz.prog 82 #[.pointer (some ⟨L.g, 0, none⟩), .int .i64 a, .int .u8 v] w fun e w' => e = .returned (.tuple #[]) ∧ Rep L (st.write a v) w' ∧ Kept L.own w w' := by
  by_cases e0 : a < 128
  · obtain ⟨k, rfl⟩ := Int.eq_ofNat_of_zero_le ha
    exact Rw_mem hr v k (by omega)
  by_cases e1 : a = 192
  · subst e1; exact Rw_period hr v h0 h1
  by_cases e2 : a = 194
  · subst e2; exact Rw_flag hr v
  by_cases e3 : a = 195
  · subst e3; exact Rw_keys hr v hb
  by_cases e4 : a = 196
  · subst e4
    cases hw : st.windowed
    · by_cases h2 : v ≤ 200
      · exact Rw_window hr v h0 h2 hw
      · exact Rw_wide hr v (by omega) hw
    · exact Rw_again hr v hw
  by_cases e5 : a = 197
  · subst e5; exact Rw_out hr v
  by_cases e6 : 199 ≤ a
  · exact Rw_upd hr v a e6 hi hb h0 h1
  · exact Rw_none hr v a (by omega)

set_option maxRecDepth 100000 in
set_option maxHeartbeats 1000000 in
theorem rLength_any (op : Int) (w : World) (h0 : 0 ≤ op) :
    Calls Tryz.prog 70 #[.int .i64 op] w fun e w' => e = .returned (.int .i64 (opLen op)) ∧ w' = w := by
  by_cases hbig : 24 < op
  · have HF : Hid (opLen op = 0) := by
      unfold opLen Hid
      rw [if_neg (by omega), if_neg (by omega), if_neg (by omega)]
    have b1 : (op == 0) = false := beq_eq_false_iff_ne.2 (by omega)
    have b2 : (op == 11) = false := beq_eq_false_iff_ne.2 (by omega)
    have b3 : (op == 12) = false := beq_eq_false_iff_ne.2 (by omega)
    have b4 : (op == 13) = false := beq_eq_false_iff_ne.2 (by omega)
    have b5 : (op == 14) = false := beq_eq_false_iff_ne.2 (by omega)
    have b6 : (op == 24) = false := beq_eq_false_iff_ne.2 (by omega)
    have b7 : (op == 1) = false := beq_eq_false_iff_ne.2 (by omega)
    go_enter Tryz.func70, Tryz.ntmps70
    go_wp2
    go_ret
    exact ⟨ret_int HF.out.symm, rfl⟩
  · have h : op = 0 ∨ op = 1 ∨ op = 2 ∨ op = 3 ∨ op = 4 ∨ op = 5 ∨ op = 6 ∨ op = 7 ∨ op = 8 ∨ op = 9 ∨ op = 10 ∨ op = 11 ∨ op = 12 ∨ op = 13 ∨ op = 14 ∨ op = 15 ∨ op = 16 ∨ op = 17 ∨ op = 18 ∨ op = 19 ∨ op = 20 ∨ op = 21 ∨ op = 22 ∨ op = 23 ∨ op = 24 := by omega
    rcases h with rfl | rfl | rfl | rfl | rfl | rfl | rfl | rfl | rfl | rfl | rfl | rfl | rfl | rfl | rfl | rfl | rfl | rfl | rfl | rfl | rfl | rfl | rfl | rfl | rfl
    all_goals
      go_enter Tryz.func70, Tryz.ntmps70
      go_wp2
      go_ret
      exact ⟨rfl, rfl⟩


end Go.Proofs.YtikdbpphbdbdnaaGreat

/- The document's board: the next byte; instructions of one, two and three cycles. -/
namespace Go.Proofs.YtikdbpphbdbdnaaGreat
open Go.RowKit

theorem Rep.fresh {L : Lay} {st : St} {w : World} (h : Rep L st w) (n : Nat) (hn : w.heap.size ≤ n) : ¬ L.own n := by
  obtain ⟨h1, h2, h3⟩ := h.lt
  intro e
  rcases e with e | e | e <;> omega

set_option maxRecDepth 100000 in
set_option maxHeartbeats 400000 in
theorem Rnext_any {L : Lay} {st : St} {w : World} (hr : Rep L st w) (hi : Inv st) (hb : 0 ≤ st.bank) (k : Int) :
    Calls Tryz.prog 69 #[.pointer (some ⟨L.g, 0, none⟩), .int .i64 k] w fun e w' => e = .returned (.agg #[.int .i64 k, .int .i64 st.pc, .int .u8 (st.read st.pc), .int .u8 0]) ∧ Rep L (st.next k).1 w' ∧ Kept L.own w w' := by
  have hlt := hr.lt
  have hfr := hr.fresh
  obtain ⟨p0, p1⟩ := hi.pc
  have c1 := hr.c_pc
  have f1 := hr.f_pc
  obtain ⟨l1, _, _⟩ := hlt
  go_enter Tryz.func69, Tryz.ntmps69
  go_wp2_with fail
  refine (Rread_any (hr.alloc _) hi hb st.pc p0).mono ?_
  rintro e w1 ⟨rfl, nq, rfl⟩
  go_wp2
  refine bodyPost_ret (v := .agg #[.int .i64 k, .int .i64 st.pc, .int .u8 (st.read st.pc), .int .u8 0]) (by simp [results, Tryz.results69, go_sem]) rfl ⟨rfl, ?r, ?k⟩
  case r =>
    apply Rep.as
    · (repeat (with_reducible first | apply Rep.alloc | apply Rep.drewN | apply Rep.drew | apply Rep.set_bank | apply Rep.set_s0 | apply Rep.set_s1 | apply Rep.set_cause | apply Rep.set_left | apply Rep.set_down | apply Rep.set_a | apply Rep.set_x | apply Rep.set_pc | apply Rep.set_zero | apply Rep.set_carry | apply Rep.set_op | apply Rep.set_opd | apply Rep.set_phase | apply Rep.set_period | apply Rep.set_count | apply Rep.set_flag | apply Rep.set_age | apply Rep.set_window | apply Rep.set_windowed | apply Rep.set_key | apply Rep.set_out | apply Rep.set_inp | apply Rep.set_opn | apply Rep.set_place | apply Rep.set_rst | (apply Rep.other; case hb => exact hfr _ (by omega)) | exact hr | exact hr1 | exact hr2 | exact hr3))
    · rfl
  case k => (repeat (with_reducible first | apply Kept.alloc | apply Kept.drewN | apply Kept.drew | apply Kept.rg | apply Kept.p | apply Kept.q | refine Kept.setCell ?_ (Or.inr (Nat.le_refl _)) _ | refine Kept.setCell ?_ (Or.inr (by omega)) _ | exact k1 | exact k2 | exact k3 | exact Kept.refl _ _))

set_option maxRecDepth 100000 in
set_option maxHeartbeats 400000 in
theorem Ralone_11 {L : Lay} {st : St} {w : World} (hr : Rep L st w) (hi : Inv st) :
    Calls Tryz.prog 73 #[.pointer (some ⟨L.g, 0, none⟩), .int .i64 11] w fun e w' => e = .returned (.tuple #[]) ∧ Rep L (st.alone 11) w' ∧ Kept L.own w w' := by
  obtain ⟨b0, b1⟩ := hi.a
  have c1 := hr.c_a
  go_enter Tryz.func73, Tryz.ntmps73
  go_wp2_with fail
  refine (RsetX_any hr st.a (by omega) (by omega)).mono ?_
  rintro e w1 ⟨rfl, hr1, k1⟩
  go_wp2
  (first | go_end0 | refine bodyPost_ret (results_none rfl _ _ _) rfl ?_)
  exact ⟨rfl, hr1, k1⟩

set_option maxRecDepth 100000 in
set_option maxHeartbeats 400000 in
theorem Ralone_12 {L : Lay} {st : St} {w : World} (hr : Rep L st w) (hi : Inv st) :
    Calls Tryz.prog 73 #[.pointer (some ⟨L.g, 0, none⟩), .int .i64 12] w fun e w' => e = .returned (.tuple #[]) ∧ Rep L (st.alone 12) w' ∧ Kept L.own w w' := by
  obtain ⟨b0, b1⟩ := hi.x
  have c1 := hr.c_x
  go_enter Tryz.func73, Tryz.ntmps73
  go_wp2_with fail
  refine (Rset_any hr st.x (by omega) (by omega)).mono ?_
  rintro e w1 ⟨rfl, hr1, k1⟩
  go_wp2
  (first | go_end0 | refine bodyPost_ret (results_none rfl _ _ _) rfl ?_)
  exact ⟨rfl, hr1, k1⟩

set_option maxRecDepth 100000 in
set_option maxHeartbeats 400000 in
theorem Ralone_13 {L : Lay} {st : St} {w : World} (hr : Rep L st w) (hi : Inv st) :
    Calls Tryz.prog 73 #[.pointer (some ⟨L.g, 0, none⟩), .int .i64 13] w fun e w' => e = .returned (.tuple #[]) ∧ Rep L (st.alone 13) w' ∧ Kept L.own w w' := by
  obtain ⟨b0, b1⟩ := hi.x
  have c1 := hr.c_x
  go_enter Tryz.func73, Tryz.ntmps73
  go_wp2_with fail
  refine (RsetX_any hr (st.x + 1) (by omega) (by omega)).mono ?_
  rintro e w1 ⟨rfl, hr1, k1⟩
  go_wp2
  (first | go_end0 | refine bodyPost_ret (results_none rfl _ _ _) rfl ?_)
  exact ⟨rfl, hr1, k1⟩

set_option maxRecDepth 100000 in
set_option maxHeartbeats 400000 in
theorem Ralone_14 {L : Lay} {st : St} {w : World} (hr : Rep L st w) (hi : Inv st) :
    Calls Tryz.prog 73 #[.pointer (some ⟨L.g, 0, none⟩), .int .i64 14] w fun e w' => e = .returned (.tuple #[]) ∧ Rep L (st.alone 14) w' ∧ Kept L.own w w' := by
  obtain ⟨b0, b1⟩ := hi.x
  have c1 := hr.c_x
  go_enter Tryz.func73, Tryz.ntmps73
  go_wp2_with fail
  refine (RsetX_any hr (st.x - 1) (by omega) (by omega)).mono ?_
  rintro e w1 ⟨rfl, hr1, k1⟩
  go_wp2
  (first | go_end0 | refine bodyPost_ret (results_none rfl _ _ _) rfl ?_)
  exact ⟨rfl, hr1, k1⟩

set_option maxRecDepth 100000 in
set_option maxHeartbeats 400000 in
theorem Ralone_24 {L : Lay} {st : St} {w : World} (hr : Rep L st w) :
    Calls Tryz.prog 73 #[.pointer (some ⟨L.g, 0, none⟩), .int .i64 24] w fun e w' => e = .returned (.tuple #[]) ∧ Rep L (st.alone 24) w' ∧ Kept L.own w w' := by
  have c1 := hr.c_phase
  have f1 := hr.f_phase
  go_enter Tryz.func73, Tryz.ntmps73
  go_wp2
  (first | go_end0 | refine bodyPost_ret (results_none rfl _ _ _) rfl ?_)
  exact ⟨rfl, (hr.set_phase _).as rfl, (Kept.refl _ _).rg _ _⟩

set_option maxRecDepth 100000 in
set_option maxHeartbeats 400000 in
theorem Ralone_no {L : Lay} {st : St} {w : World} (hr : Rep L st w) (op : Int) (h1 : (op == 11) = false) (h2 : (op == 12) = false) (h3 : (op == 13) = false) (h4 : (op == 14) = false) (h5 : (op == 24) = false) :
    Calls Tryz.prog 73 #[.pointer (some ⟨L.g, 0, none⟩), .int .i64 op] w fun e w' => e = .returned (.tuple #[]) ∧ Rep L (st.alone op) w' ∧ Kept L.own w w' := by
  have HF : Hid (st.alone op = st) := by
    simp only [beq_eq_false_iff_ne, ne_eq] at h1 h2 h3 h4 h5
    simp [Hid, St.alone, h1, h2, h3, h4, h5]
  go_enter Tryz.func73, Tryz.ntmps73
  go_wp2
  (first | go_end0 | refine bodyPost_ret (results_none rfl _ _ _) rfl ?_)
  exact ⟨rfl, hr.as HF.out.symm, Kept.refl _ _⟩

theorem Ralone_any {L : Lay} {st : St} {w : World} (hr : Rep L st w) (hi : Inv st) (op : Int) :
    Calls Tryz.prog 73 #[.pointer (some ⟨L.g, 0, none⟩), .int .i64 op] w fun e w' => e = .returned (.tuple #[]) ∧ Rep L (st.alone op) w' ∧ Kept L.own w w' := by
  by_cases h1 : op = 11
  · subst h1; exact Ralone_11 hr hi
  by_cases h2 : op = 12
  · subst h2; exact Ralone_12 hr hi
  by_cases h3 : op = 13
  · subst h3; exact Ralone_13 hr hi
  by_cases h4 : op = 14
  · subst h4; exact Ralone_14 hr hi
  by_cases h5 : op = 24
  · subst h5; exact Ralone_24 hr
  · exact Ralone_no hr op (by simpa using h1) (by simpa using h2) (by simpa using h3) (by simpa using h4) (by simpa using h5)

set_option maxRecDepth 100000 in
set_option maxHeartbeats 400000 in
theorem Rjumps_1 {L : Lay} {st : St} {w : World} (hr : Rep L st w) (n : Int) (h0 : 0 ≤ n) (h1 : n ≤ 255) :
    Calls Tryz.prog 71 #[.pointer (some ⟨L.g, 0, none⟩), .int .i64 1, .int .i64 n] w fun e w' => e = .returned (.tuple #[]) ∧ Rep L (st.jumps 1 n) w' ∧ Kept L.own w w' := by
  go_enter Tryz.func71, Tryz.ntmps71
  go_wp2_with fail
  refine (Rset_any hr n (by omega) (by omega)).mono ?_
  rintro e w1 ⟨rfl, hr1, k1⟩
  go_wp2
  (first | go_end0 | refine bodyPost_ret (results_none rfl _ _ _) rfl ?_)
  exact ⟨rfl, hr1.as rfl, k1⟩

set_option maxRecDepth 100000 in
set_option maxHeartbeats 400000 in
theorem Rjumps_16 {L : Lay} {st : St} {w : World} (hr : Rep L st w) (n : Int) :
    Calls Tryz.prog 71 #[.pointer (some ⟨L.g, 0, none⟩), .int .i64 16, .int .i64 n] w fun e w' => e = .returned (.tuple #[]) ∧ Rep L (st.jumps 16 n) w' ∧ Kept L.own w w' := by
  have HF : Hid (st.jumps 16 n = { st with pc := n }) := by simp [Hid, St.jumps, St.goes]
  have c2 := hr.c_pc
  have f2 := hr.f_pc
  go_enter Tryz.func71, Tryz.ntmps71
  go_wp2
  (first | go_end0 | refine bodyPost_ret (results_none rfl _ _ _) rfl ?_)
  exact ⟨rfl, (hr.set_pc _).as HF.out.symm, (Kept.refl _ _).rg _ _⟩

set_option maxRecDepth 100000 in
set_option maxHeartbeats 400000 in
theorem Rjumps_17_t {L : Lay} {st : St} {w : World} (hr : Rep L st w) (n : Int) (hf : st.zero = true) :
    Calls Tryz.prog 71 #[.pointer (some ⟨L.g, 0, none⟩), .int .i64 17, .int .i64 n] w fun e w' => e = .returned (.tuple #[]) ∧ Rep L (st.jumps 17 n) w' ∧ Kept L.own w w' := by
  have HF : Hid (st.jumps 17 n = { st with pc := n }) := by simp [Hid, St.jumps, St.goes, hf]
  have c1 := hr.c_zero
  rw [hf] at c1
  clear hf
  have c2 := hr.c_pc
  have f2 := hr.f_pc
  go_enter Tryz.func71, Tryz.ntmps71
  go_wp2
  (first | go_end0 | refine bodyPost_ret (results_none rfl _ _ _) rfl ?_)
  exact ⟨rfl, (hr.set_pc _).as HF.out.symm, (Kept.refl _ _).rg _ _⟩

set_option maxRecDepth 100000 in
set_option maxHeartbeats 400000 in
theorem Rjumps_17_f {L : Lay} {st : St} {w : World} (hr : Rep L st w) (n : Int) (hf : st.zero = false) :
    Calls Tryz.prog 71 #[.pointer (some ⟨L.g, 0, none⟩), .int .i64 17, .int .i64 n] w fun e w' => e = .returned (.tuple #[]) ∧ Rep L (st.jumps 17 n) w' ∧ Kept L.own w w' := by
  have HF : Hid (st.jumps 17 n = st) := by simp [Hid, St.jumps, St.goes, hf]
  have c1 := hr.c_zero
  rw [hf] at c1
  clear hf
  go_enter Tryz.func71, Tryz.ntmps71
  go_wp2
  (first | go_end0 | refine bodyPost_ret (results_none rfl _ _ _) rfl ?_)
  exact ⟨rfl, hr.as HF.out.symm, Kept.refl _ _⟩

set_option maxRecDepth 100000 in
set_option maxHeartbeats 400000 in
theorem Rjumps_18_t {L : Lay} {st : St} {w : World} (hr : Rep L st w) (n : Int) (hf : st.zero = true) :
    Calls Tryz.prog 71 #[.pointer (some ⟨L.g, 0, none⟩), .int .i64 18, .int .i64 n] w fun e w' => e = .returned (.tuple #[]) ∧ Rep L (st.jumps 18 n) w' ∧ Kept L.own w w' := by
  have HF : Hid (st.jumps 18 n = st) := by simp [Hid, St.jumps, St.goes, hf]
  have c1 := hr.c_zero
  rw [hf] at c1
  clear hf
  go_enter Tryz.func71, Tryz.ntmps71
  go_wp2
  (first | go_end0 | refine bodyPost_ret (results_none rfl _ _ _) rfl ?_)
  exact ⟨rfl, hr.as HF.out.symm, Kept.refl _ _⟩

set_option maxRecDepth 100000 in
set_option maxHeartbeats 400000 in
theorem Rjumps_18_f {L : Lay} {st : St} {w : World} (hr : Rep L st w) (n : Int) (hf : st.zero = false) :
    Calls Tryz.prog 71 #[.pointer (some ⟨L.g, 0, none⟩), .int .i64 18, .int .i64 n] w fun e w' => e = .returned (.tuple #[]) ∧ Rep L (st.jumps 18 n) w' ∧ Kept L.own w w' := by
  have HF : Hid (st.jumps 18 n = { st with pc := n }) := by simp [Hid, St.jumps, St.goes, hf]
  have c1 := hr.c_zero
  rw [hf] at c1
  clear hf
  have c2 := hr.c_pc
  have f2 := hr.f_pc
  go_enter Tryz.func71, Tryz.ntmps71
  go_wp2
  (first | go_end0 | refine bodyPost_ret (results_none rfl _ _ _) rfl ?_)
  exact ⟨rfl, (hr.set_pc _).as HF.out.symm, (Kept.refl _ _).rg _ _⟩

set_option maxRecDepth 100000 in
set_option maxHeartbeats 400000 in
theorem Rjumps_19_t {L : Lay} {st : St} {w : World} (hr : Rep L st w) (n : Int) (hf : st.carry = true) :
    Calls Tryz.prog 71 #[.pointer (some ⟨L.g, 0, none⟩), .int .i64 19, .int .i64 n] w fun e w' => e = .returned (.tuple #[]) ∧ Rep L (st.jumps 19 n) w' ∧ Kept L.own w w' := by
  have HF : Hid (st.jumps 19 n = { st with pc := n }) := by simp [Hid, St.jumps, St.goes, hf]
  have c1 := hr.c_carry
  rw [hf] at c1
  clear hf
  have c2 := hr.c_pc
  have f2 := hr.f_pc
  go_enter Tryz.func71, Tryz.ntmps71
  go_wp2
  (first | go_end0 | refine bodyPost_ret (results_none rfl _ _ _) rfl ?_)
  exact ⟨rfl, (hr.set_pc _).as HF.out.symm, (Kept.refl _ _).rg _ _⟩

set_option maxRecDepth 100000 in
set_option maxHeartbeats 400000 in
theorem Rjumps_19_f {L : Lay} {st : St} {w : World} (hr : Rep L st w) (n : Int) (hf : st.carry = false) :
    Calls Tryz.prog 71 #[.pointer (some ⟨L.g, 0, none⟩), .int .i64 19, .int .i64 n] w fun e w' => e = .returned (.tuple #[]) ∧ Rep L (st.jumps 19 n) w' ∧ Kept L.own w w' := by
  have HF : Hid (st.jumps 19 n = st) := by simp [Hid, St.jumps, St.goes, hf]
  have c1 := hr.c_carry
  rw [hf] at c1
  clear hf
  go_enter Tryz.func71, Tryz.ntmps71
  go_wp2
  (first | go_end0 | refine bodyPost_ret (results_none rfl _ _ _) rfl ?_)
  exact ⟨rfl, hr.as HF.out.symm, Kept.refl _ _⟩

set_option maxRecDepth 100000 in
set_option maxHeartbeats 400000 in
theorem Rjumps_20_t {L : Lay} {st : St} {w : World} (hr : Rep L st w) (n : Int) (hf : st.carry = true) :
    Calls Tryz.prog 71 #[.pointer (some ⟨L.g, 0, none⟩), .int .i64 20, .int .i64 n] w fun e w' => e = .returned (.tuple #[]) ∧ Rep L (st.jumps 20 n) w' ∧ Kept L.own w w' := by
  have HF : Hid (st.jumps 20 n = st) := by simp [Hid, St.jumps, St.goes, hf]
  have c1 := hr.c_carry
  rw [hf] at c1
  clear hf
  go_enter Tryz.func71, Tryz.ntmps71
  go_wp2
  (first | go_end0 | refine bodyPost_ret (results_none rfl _ _ _) rfl ?_)
  exact ⟨rfl, hr.as HF.out.symm, Kept.refl _ _⟩

set_option maxRecDepth 100000 in
set_option maxHeartbeats 400000 in
theorem Rjumps_20_f {L : Lay} {st : St} {w : World} (hr : Rep L st w) (n : Int) (hf : st.carry = false) :
    Calls Tryz.prog 71 #[.pointer (some ⟨L.g, 0, none⟩), .int .i64 20, .int .i64 n] w fun e w' => e = .returned (.tuple #[]) ∧ Rep L (st.jumps 20 n) w' ∧ Kept L.own w w' := by
  have HF : Hid (st.jumps 20 n = { st with pc := n }) := by simp [Hid, St.jumps, St.goes, hf]
  have c1 := hr.c_carry
  rw [hf] at c1
  clear hf
  have c2 := hr.c_pc
  have f2 := hr.f_pc
  go_enter Tryz.func71, Tryz.ntmps71
  go_wp2
  (first | go_end0 | refine bodyPost_ret (results_none rfl _ _ _) rfl ?_)
  exact ⟨rfl, (hr.set_pc _).as HF.out.symm, (Kept.refl _ _).rg _ _⟩

set_option maxRecDepth 100000 in
set_option maxHeartbeats 400000 in
theorem Rjumps_no {L : Lay} {st : St} {w : World} (hr : Rep L st w) (n op : Int) (h1 : (op == 1) = false) (h2 : (op == 16) = false) (h3 : (op == 17) = false) (h4 : (op == 18) = false) (h5 : (op == 19) = false) (h6 : (op == 20) = false) :
    Calls Tryz.prog 71 #[.pointer (some ⟨L.g, 0, none⟩), .int .i64 op, .int .i64 n] w fun e w' => e = .returned (.tuple #[]) ∧ Rep L (st.jumps op n) w' ∧ Kept L.own w w' := by
  have HF : Hid (st.jumps op n = st) := by
    have h1' : ¬ op = 1 := by simpa using h1
    simp [Hid, St.jumps, St.goes, h1', h2, h3, h4, h5, h6]
  go_enter Tryz.func71, Tryz.ntmps71
  go_wp2
  (first | go_end0 | refine bodyPost_ret (results_none rfl _ _ _) rfl ?_)
  exact ⟨rfl, hr.as HF.out.symm, Kept.refl _ _⟩

theorem Rjumps_any {L : Lay} {st : St} {w : World} (hr : Rep L st w) (op n : Int) (h0 : 0 ≤ n) (h1 : n ≤ 255) :
    Calls Tryz.prog 71 #[.pointer (some ⟨L.g, 0, none⟩), .int .i64 op, .int .i64 n] w fun e w' => e = .returned (.tuple #[]) ∧ Rep L (st.jumps op n) w' ∧ Kept L.own w w' := by
  by_cases e1 : op = 1
  · subst e1; exact Rjumps_1 hr n h0 h1
  by_cases e2 : op = 16
  · subst e2; exact Rjumps_16 hr n
  by_cases e3 : op = 17
  · subst e3
    cases hf : st.zero
    · exact Rjumps_17_f hr n hf
    · exact Rjumps_17_t hr n hf
  by_cases e4 : op = 18
  · subst e4
    cases hf : st.zero
    · exact Rjumps_18_f hr n hf
    · exact Rjumps_18_t hr n hf
  by_cases e5 : op = 19
  · subst e5
    cases hf : st.carry
    · exact Rjumps_19_f hr n hf
    · exact Rjumps_19_t hr n hf
  by_cases e6 : op = 20
  · subst e6
    cases hf : st.carry
    · exact Rjumps_20_f hr n hf
    · exact Rjumps_20_t hr n hf
  · exact Rjumps_no hr n op (by simpa using e1) (by simpa using e2) (by simpa using e3) (by simpa using e4) (by simpa using e5) (by simpa using e6)


end Go.Proofs.YtikdbpphbdbdnaaGreat

/- The document's board: the third cycle of an instruction. -/
namespace Go.Proofs.YtikdbpphbdbdnaaGreat
open Go.RowKit
set_option linter.unusedVariables false

set_option maxRecDepth 100000 in
set_option maxHeartbeats 400000 in
theorem Rasks_3 {L : Lay} {st : St} {w : World} (hr : Rep L st w) (hi : Inv st) (hb : 0 ≤ st.bank) (at_ : Int) (h0 : 0 ≤ at_) (h1 : at_ ≤ 255) :
    Calls Tryz.prog 72 #[.pointer (some ⟨L.g, 0, none⟩), .int .i64 3, .int .i64 at_] w fun e w' => e = .returned (.agg #[.int .i64 (st.asks 3 at_).2.kind, .int .i64 (st.asks 3 at_).2.addr, .int .u8 (st.asks 3 at_).2.data, .int .u8 0]) ∧ Rep L (st.asks 3 at_).1 w' ∧ Kept L.own w w' := by
  have hfr := hr.fresh
  obtain ⟨l1, l2, l3⟩ := hr.lt
  obtain ⟨a0, a1⟩ := hi.a
  obtain ⟨x0, x1⟩ := hi.x
  have hb2 : st.bank = 0 ∨ st.bank = 1 := by have := hi.bank; omega
  have HF : Hid (st.asks 3 at_ = (st.write at_ st.a, ⟨6, at_, st.a, 0⟩)) := by simp [Hid, St.asks, St.target]
  have c1 := hr.c_a
  have c2 := hr.c_x
  go_enter Tryz.func72, Tryz.ntmps72
  go_wp2_with fail
  refine (Rwrite_any (hr.alloc _) hi hb2 at_ st.a (by omega) a0 a1).mono ?_
  rintro e w1 ⟨rfl, hr1, k1⟩
  obtain ⟨hc, hf⟩ := kcell k1 (b := w.heap.size) (by simp) (hfr _ (Nat.le_refl _))
  have k2 : Kept L.own w w1 := ((Kept.refl _ w).alloc _).trans k1
  have hz : w.heap.size < w1.heap.size := by have := k1.size; simp at this; omega
  clear k1 c1 c2
  go_wp2
  rw [HF.out]
  refine bodyPost_ret (v := .agg #[.int .i64 6, .int .i64 at_, .int .u8 st.a, .int .u8 0]) (by simp [results, Tryz.results72, go_sem, hc]) rfl ⟨rfl, ?r, ?k⟩
  case r =>
    apply Rep.as
    · (repeat (with_reducible first | apply Rep.alloc | apply Rep.drewN | apply Rep.drew | apply Rep.set_bank | apply Rep.set_s0 | apply Rep.set_s1 | apply Rep.set_cause | apply Rep.set_left | apply Rep.set_down | apply Rep.set_a | apply Rep.set_x | apply Rep.set_pc | apply Rep.set_zero | apply Rep.set_carry | apply Rep.set_op | apply Rep.set_opd | apply Rep.set_phase | apply Rep.set_period | apply Rep.set_count | apply Rep.set_flag | apply Rep.set_age | apply Rep.set_window | apply Rep.set_windowed | apply Rep.set_key | apply Rep.set_out | apply Rep.set_inp | apply Rep.set_opn | apply Rep.set_place | apply Rep.set_rst | (apply Rep.other; case hb => exact hfr _ (by omega)) | exact hr | exact hr1 | exact hr2 | exact hr3))
    · rfl
  case k => (repeat (with_reducible first | apply Kept.alloc | apply Kept.drewN | apply Kept.drew | apply Kept.rg | apply Kept.p | apply Kept.q | refine Kept.setCell ?_ (Or.inr (Nat.le_refl _)) _ | refine Kept.setCell ?_ (Or.inr (by omega)) _ | exact k1 | exact k2 | exact k3 | exact Kept.refl _ _))

set_option maxRecDepth 100000 in
set_option maxHeartbeats 400000 in
theorem Rasks_10 {L : Lay} {st : St} {w : World} (hr : Rep L st w) (hi : Inv st) (hb : 0 ≤ st.bank) (at_ : Int) (h0 : 0 ≤ at_) (h1 : at_ ≤ 255) :
    Calls Tryz.prog 72 #[.pointer (some ⟨L.g, 0, none⟩), .int .i64 10, .int .i64 at_] w fun e w' => e = .returned (.agg #[.int .i64 (st.asks 10 at_).2.kind, .int .i64 (st.asks 10 at_).2.addr, .int .u8 (st.asks 10 at_).2.data, .int .u8 0]) ∧ Rep L (st.asks 10 at_).1 w' ∧ Kept L.own w w' := by
  have hfr := hr.fresh
  obtain ⟨l1, l2, l3⟩ := hr.lt
  obtain ⟨a0, a1⟩ := hi.a
  obtain ⟨x0, x1⟩ := hi.x
  have hb2 : st.bank = 0 ∨ st.bank = 1 := by have := hi.bank; omega
  have HF : Hid (st.asks 10 at_ = (st.write ((at_ + st.x) % 256) st.a, ⟨6, ((at_ + st.x) % 256), st.a, 0⟩)) := by simp [Hid, St.asks, St.target]
  have c1 := hr.c_a
  have c2 := hr.c_x
  go_enter Tryz.func72, Tryz.ntmps72
  go_wp2_with fail
  refine (Rwrite_any (hr.alloc _) hi hb2 ((at_ + st.x) % 256) st.a (by omega) a0 a1).mono ?_
  rintro e w1 ⟨rfl, hr1, k1⟩
  obtain ⟨hc, hf⟩ := kcell k1 (b := w.heap.size) (by simp) (hfr _ (Nat.le_refl _))
  have k2 : Kept L.own w w1 := ((Kept.refl _ w).alloc _).trans k1
  have hz : w.heap.size < w1.heap.size := by have := k1.size; simp at this; omega
  clear k1 c1 c2
  go_wp2
  rw [HF.out]
  refine bodyPost_ret (v := .agg #[.int .i64 6, .int .i64 ((at_ + st.x) % 256), .int .u8 st.a, .int .u8 0]) (by simp [results, Tryz.results72, go_sem, hc]) rfl ⟨rfl, ?r, ?k⟩
  case r =>
    apply Rep.as
    · (repeat (with_reducible first | apply Rep.alloc | apply Rep.drewN | apply Rep.drew | apply Rep.set_bank | apply Rep.set_s0 | apply Rep.set_s1 | apply Rep.set_cause | apply Rep.set_left | apply Rep.set_down | apply Rep.set_a | apply Rep.set_x | apply Rep.set_pc | apply Rep.set_zero | apply Rep.set_carry | apply Rep.set_op | apply Rep.set_opd | apply Rep.set_phase | apply Rep.set_period | apply Rep.set_count | apply Rep.set_flag | apply Rep.set_age | apply Rep.set_window | apply Rep.set_windowed | apply Rep.set_key | apply Rep.set_out | apply Rep.set_inp | apply Rep.set_opn | apply Rep.set_place | apply Rep.set_rst | (apply Rep.other; case hb => exact hfr _ (by omega)) | exact hr | exact hr1 | exact hr2 | exact hr3))
    · rfl
  case k => (repeat (with_reducible first | apply Kept.alloc | apply Kept.drewN | apply Kept.drew | apply Kept.rg | apply Kept.p | apply Kept.q | refine Kept.setCell ?_ (Or.inr (Nat.le_refl _)) _ | refine Kept.setCell ?_ (Or.inr (by omega)) _ | exact k1 | exact k2 | exact k3 | exact Kept.refl _ _))

set_option maxRecDepth 100000 in
set_option maxHeartbeats 400000 in
theorem Rasks_2 {L : Lay} {st : St} {w : World} (hr : Rep L st w) (hi : Inv st) (hb : 0 ≤ st.bank) (at_ : Int) (h0 : 0 ≤ at_) (h1 : at_ ≤ 255) :
    Calls Tryz.prog 72 #[.pointer (some ⟨L.g, 0, none⟩), .int .i64 2, .int .i64 at_] w fun e w' => e = .returned (.agg #[.int .i64 (st.asks 2 at_).2.kind, .int .i64 (st.asks 2 at_).2.addr, .int .u8 (st.asks 2 at_).2.data, .int .u8 0]) ∧ Rep L (st.asks 2 at_).1 w' ∧ Kept L.own w w' := by
  have hfr := hr.fresh
  obtain ⟨l1, l2, l3⟩ := hr.lt
  obtain ⟨a0, a1⟩ := hi.a
  obtain ⟨x0, x1⟩ := hi.x
  have hb2 : st.bank = 0 ∨ st.bank = 1 := by have := hi.bank; omega
  obtain ⟨r0, r1⟩ := read_bounds hi hb at_
  have HF : Hid (st.asks 2 at_ = (st.takes 2 (st.read at_), ⟨5, at_, st.read at_, 0⟩)) := by simp [Hid, St.asks, St.target]
  have c1 := hr.c_a
  have c2 := hr.c_x
  have c3 := hr.c_carry
  have f3 := hr.f_carry
  go_enter Tryz.func72, Tryz.ntmps72
  go_wp2_with fail
  refine (Rread_any (hr.alloc _) hi hb at_ (by omega)).mono ?_
  rintro e w1 ⟨rfl, nq, rfl⟩
  go_wp2_with fail
  refine (Rset_any (st := st) ?hrep (st.read at_) (by omega) (by omega)).mono ?_
  case hrep =>
    apply Rep.as
    · (repeat (with_reducible first | apply Rep.alloc | apply Rep.drewN | apply Rep.drew | apply Rep.set_bank | apply Rep.set_s0 | apply Rep.set_s1 | apply Rep.set_cause | apply Rep.set_left | apply Rep.set_down | apply Rep.set_a | apply Rep.set_x | apply Rep.set_pc | apply Rep.set_zero | apply Rep.set_carry | apply Rep.set_op | apply Rep.set_opd | apply Rep.set_phase | apply Rep.set_period | apply Rep.set_count | apply Rep.set_flag | apply Rep.set_age | apply Rep.set_window | apply Rep.set_windowed | apply Rep.set_key | apply Rep.set_out | apply Rep.set_inp | apply Rep.set_opn | apply Rep.set_place | apply Rep.set_rst | (apply Rep.other; case hb => exact hfr _ (by omega)) | exact hr | exact hr1 | exact hr2 | exact hr3))
    · rfl
  rintro e w2 ⟨rfl, hr1, k1⟩
  obtain ⟨hc, hf⟩ := kcell k1 (b := w.heap.size) (by simp) (hfr _ (Nat.le_refl _))
  have k2 : Kept L.own w w2 := by
    refine Kept.trans ?_ k1
    (repeat (with_reducible first | apply Kept.alloc | apply Kept.drewN | apply Kept.drew | apply Kept.rg | apply Kept.p | apply Kept.q | refine Kept.setCell ?_ (Or.inr (Nat.le_refl _)) _ | refine Kept.setCell ?_ (Or.inr (by omega)) _ | exact k1 | exact k2 | exact k3 | exact Kept.refl _ _))
  have hz : w.heap.size < w2.heap.size := by have := k1.size; simp at this; omega
  clear k1 c1 c2 c3 f3
  go_wp2
  rw [HF.out]
  refine bodyPost_ret (v := .agg #[.int .i64 5, .int .i64 at_, .int .u8 (st.read at_), .int .u8 0]) (by simp [results, Tryz.results72, go_sem, hc]) rfl ⟨rfl, ?r, ?k⟩
  case r =>
    apply Rep.as
    · (repeat (with_reducible first | apply Rep.alloc | apply Rep.drewN | apply Rep.drew | apply Rep.set_bank | apply Rep.set_s0 | apply Rep.set_s1 | apply Rep.set_cause | apply Rep.set_left | apply Rep.set_down | apply Rep.set_a | apply Rep.set_x | apply Rep.set_pc | apply Rep.set_zero | apply Rep.set_carry | apply Rep.set_op | apply Rep.set_opd | apply Rep.set_phase | apply Rep.set_period | apply Rep.set_count | apply Rep.set_flag | apply Rep.set_age | apply Rep.set_window | apply Rep.set_windowed | apply Rep.set_key | apply Rep.set_out | apply Rep.set_inp | apply Rep.set_opn | apply Rep.set_place | apply Rep.set_rst | (apply Rep.other; case hb => exact hfr _ (by omega)) | exact hr | exact hr1 | exact hr2 | exact hr3))
    · rfl
  case k => (repeat (with_reducible first | apply Kept.alloc | apply Kept.drewN | apply Kept.drew | apply Kept.rg | apply Kept.p | apply Kept.q | refine Kept.setCell ?_ (Or.inr (Nat.le_refl _)) _ | refine Kept.setCell ?_ (Or.inr (by omega)) _ | exact k1 | exact k2 | exact k3 | exact Kept.refl _ _))

set_option maxRecDepth 100000 in
set_option maxHeartbeats 400000 in
theorem Rasks_4 {L : Lay} {st : St} {w : World} (hr : Rep L st w) (hi : Inv st) (hb : 0 ≤ st.bank) (at_ : Int) (h0 : 0 ≤ at_) (h1 : at_ ≤ 255) :
    Calls Tryz.prog 72 #[.pointer (some ⟨L.g, 0, none⟩), .int .i64 4, .int .i64 at_] w fun e w' => e = .returned (.agg #[.int .i64 (st.asks 4 at_).2.kind, .int .i64 (st.asks 4 at_).2.addr, .int .u8 (st.asks 4 at_).2.data, .int .u8 0]) ∧ Rep L (st.asks 4 at_).1 w' ∧ Kept L.own w w' := by
  have hfr := hr.fresh
  obtain ⟨l1, l2, l3⟩ := hr.lt
  obtain ⟨a0, a1⟩ := hi.a
  obtain ⟨x0, x1⟩ := hi.x
  have hb2 : st.bank = 0 ∨ st.bank = 1 := by have := hi.bank; omega
  obtain ⟨r0, r1⟩ := read_bounds hi hb at_
  have HF : Hid (st.asks 4 at_ = (st.takes 4 (st.read at_), ⟨5, at_, st.read at_, 0⟩)) := by simp [Hid, St.asks, St.target]
  have c1 := hr.c_a
  have c2 := hr.c_x
  have c3 := hr.c_carry
  have f3 := hr.f_carry
  go_enter Tryz.func72, Tryz.ntmps72
  go_wp2_with fail
  refine (Rread_any (hr.alloc _) hi hb at_ (by omega)).mono ?_
  rintro e w1 ⟨rfl, nq, rfl⟩
  go_wp2_with fail
  refine (Rset_any (st := { st with carry := decide (255 < st.a + st.read at_) }) ?hrep (st.a + st.read at_) (by omega) (by omega)).mono ?_
  case hrep =>
    apply Rep.as
    · (repeat (with_reducible first | apply Rep.alloc | apply Rep.drewN | apply Rep.drew | apply Rep.set_bank | apply Rep.set_s0 | apply Rep.set_s1 | apply Rep.set_cause | apply Rep.set_left | apply Rep.set_down | apply Rep.set_a | apply Rep.set_x | apply Rep.set_pc | apply Rep.set_zero | apply Rep.set_carry | apply Rep.set_op | apply Rep.set_opd | apply Rep.set_phase | apply Rep.set_period | apply Rep.set_count | apply Rep.set_flag | apply Rep.set_age | apply Rep.set_window | apply Rep.set_windowed | apply Rep.set_key | apply Rep.set_out | apply Rep.set_inp | apply Rep.set_opn | apply Rep.set_place | apply Rep.set_rst | (apply Rep.other; case hb => exact hfr _ (by omega)) | exact hr | exact hr1 | exact hr2 | exact hr3))
    · rfl
  rintro e w2 ⟨rfl, hr1, k1⟩
  obtain ⟨hc, hf⟩ := kcell k1 (b := w.heap.size) (by simp) (hfr _ (Nat.le_refl _))
  have k2 : Kept L.own w w2 := by
    refine Kept.trans ?_ k1
    (repeat (with_reducible first | apply Kept.alloc | apply Kept.drewN | apply Kept.drew | apply Kept.rg | apply Kept.p | apply Kept.q | refine Kept.setCell ?_ (Or.inr (Nat.le_refl _)) _ | refine Kept.setCell ?_ (Or.inr (by omega)) _ | exact k1 | exact k2 | exact k3 | exact Kept.refl _ _))
  have hz : w.heap.size < w2.heap.size := by have := k1.size; simp at this; omega
  clear k1 c1 c2 c3 f3
  go_wp2
  rw [HF.out]
  refine bodyPost_ret (v := .agg #[.int .i64 5, .int .i64 at_, .int .u8 (st.read at_), .int .u8 0]) (by simp [results, Tryz.results72, go_sem, hc]) rfl ⟨rfl, ?r, ?k⟩
  case r =>
    apply Rep.as
    · (repeat (with_reducible first | apply Rep.alloc | apply Rep.drewN | apply Rep.drew | apply Rep.set_bank | apply Rep.set_s0 | apply Rep.set_s1 | apply Rep.set_cause | apply Rep.set_left | apply Rep.set_down | apply Rep.set_a | apply Rep.set_x | apply Rep.set_pc | apply Rep.set_zero | apply Rep.set_carry | apply Rep.set_op | apply Rep.set_opd | apply Rep.set_phase | apply Rep.set_period | apply Rep.set_count | apply Rep.set_flag | apply Rep.set_age | apply Rep.set_window | apply Rep.set_windowed | apply Rep.set_key | apply Rep.set_out | apply Rep.set_inp | apply Rep.set_opn | apply Rep.set_place | apply Rep.set_rst | (apply Rep.other; case hb => exact hfr _ (by omega)) | exact hr | exact hr1 | exact hr2 | exact hr3))
    · rfl
  case k => (repeat (with_reducible first | apply Kept.alloc | apply Kept.drewN | apply Kept.drew | apply Kept.rg | apply Kept.p | apply Kept.q | refine Kept.setCell ?_ (Or.inr (Nat.le_refl _)) _ | refine Kept.setCell ?_ (Or.inr (by omega)) _ | exact k1 | exact k2 | exact k3 | exact Kept.refl _ _))

set_option maxRecDepth 100000 in
set_option maxHeartbeats 400000 in
theorem Rasks_5 {L : Lay} {st : St} {w : World} (hr : Rep L st w) (hi : Inv st) (hb : 0 ≤ st.bank) (at_ : Int) (h0 : 0 ≤ at_) (h1 : at_ ≤ 255) :
    Calls Tryz.prog 72 #[.pointer (some ⟨L.g, 0, none⟩), .int .i64 5, .int .i64 at_] w fun e w' => e = .returned (.agg #[.int .i64 (st.asks 5 at_).2.kind, .int .i64 (st.asks 5 at_).2.addr, .int .u8 (st.asks 5 at_).2.data, .int .u8 0]) ∧ Rep L (st.asks 5 at_).1 w' ∧ Kept L.own w w' := by
  have hfr := hr.fresh
  obtain ⟨l1, l2, l3⟩ := hr.lt
  obtain ⟨a0, a1⟩ := hi.a
  obtain ⟨x0, x1⟩ := hi.x
  have hb2 : st.bank = 0 ∨ st.bank = 1 := by have := hi.bank; omega
  obtain ⟨r0, r1⟩ := read_bounds hi hb at_
  have HF : Hid (st.asks 5 at_ = (st.takes 5 (st.read at_), ⟨5, at_, st.read at_, 0⟩)) := by simp [Hid, St.asks, St.target]
  have c1 := hr.c_a
  have c2 := hr.c_x
  have c3 := hr.c_carry
  have f3 := hr.f_carry
  go_enter Tryz.func72, Tryz.ntmps72
  go_wp2_with fail
  refine (Rread_any (hr.alloc _) hi hb at_ (by omega)).mono ?_
  rintro e w1 ⟨rfl, nq, rfl⟩
  go_wp2_with fail
  refine (Rset_any (st := { st with carry := decide (st.a < st.read at_) }) ?hrep (st.a - st.read at_) (by omega) (by omega)).mono ?_
  case hrep =>
    apply Rep.as
    · (repeat (with_reducible first | apply Rep.alloc | apply Rep.drewN | apply Rep.drew | apply Rep.set_bank | apply Rep.set_s0 | apply Rep.set_s1 | apply Rep.set_cause | apply Rep.set_left | apply Rep.set_down | apply Rep.set_a | apply Rep.set_x | apply Rep.set_pc | apply Rep.set_zero | apply Rep.set_carry | apply Rep.set_op | apply Rep.set_opd | apply Rep.set_phase | apply Rep.set_period | apply Rep.set_count | apply Rep.set_flag | apply Rep.set_age | apply Rep.set_window | apply Rep.set_windowed | apply Rep.set_key | apply Rep.set_out | apply Rep.set_inp | apply Rep.set_opn | apply Rep.set_place | apply Rep.set_rst | (apply Rep.other; case hb => exact hfr _ (by omega)) | exact hr | exact hr1 | exact hr2 | exact hr3))
    · rfl
  rintro e w2 ⟨rfl, hr1, k1⟩
  obtain ⟨hc, hf⟩ := kcell k1 (b := w.heap.size) (by simp) (hfr _ (Nat.le_refl _))
  have k2 : Kept L.own w w2 := by
    refine Kept.trans ?_ k1
    (repeat (with_reducible first | apply Kept.alloc | apply Kept.drewN | apply Kept.drew | apply Kept.rg | apply Kept.p | apply Kept.q | refine Kept.setCell ?_ (Or.inr (Nat.le_refl _)) _ | refine Kept.setCell ?_ (Or.inr (by omega)) _ | exact k1 | exact k2 | exact k3 | exact Kept.refl _ _))
  have hz : w.heap.size < w2.heap.size := by have := k1.size; simp at this; omega
  clear k1 c1 c2 c3 f3
  go_wp2
  rw [HF.out]
  refine bodyPost_ret (v := .agg #[.int .i64 5, .int .i64 at_, .int .u8 (st.read at_), .int .u8 0]) (by simp [results, Tryz.results72, go_sem, hc]) rfl ⟨rfl, ?r, ?k⟩
  case r =>
    apply Rep.as
    · (repeat (with_reducible first | apply Rep.alloc | apply Rep.drewN | apply Rep.drew | apply Rep.set_bank | apply Rep.set_s0 | apply Rep.set_s1 | apply Rep.set_cause | apply Rep.set_left | apply Rep.set_down | apply Rep.set_a | apply Rep.set_x | apply Rep.set_pc | apply Rep.set_zero | apply Rep.set_carry | apply Rep.set_op | apply Rep.set_opd | apply Rep.set_phase | apply Rep.set_period | apply Rep.set_count | apply Rep.set_flag | apply Rep.set_age | apply Rep.set_window | apply Rep.set_windowed | apply Rep.set_key | apply Rep.set_out | apply Rep.set_inp | apply Rep.set_opn | apply Rep.set_place | apply Rep.set_rst | (apply Rep.other; case hb => exact hfr _ (by omega)) | exact hr | exact hr1 | exact hr2 | exact hr3))
    · rfl
  case k => (repeat (with_reducible first | apply Kept.alloc | apply Kept.drewN | apply Kept.drew | apply Kept.rg | apply Kept.p | apply Kept.q | refine Kept.setCell ?_ (Or.inr (Nat.le_refl _)) _ | refine Kept.setCell ?_ (Or.inr (by omega)) _ | exact k1 | exact k2 | exact k3 | exact Kept.refl _ _))

set_option maxRecDepth 100000 in
set_option maxHeartbeats 400000 in
theorem Rasks_6 {L : Lay} {st : St} {w : World} (hr : Rep L st w) (hi : Inv st) (hb : 0 ≤ st.bank) (at_ : Int) (h0 : 0 ≤ at_) (h1 : at_ ≤ 255) :
    Calls Tryz.prog 72 #[.pointer (some ⟨L.g, 0, none⟩), .int .i64 6, .int .i64 at_] w fun e w' => e = .returned (.agg #[.int .i64 (st.asks 6 at_).2.kind, .int .i64 (st.asks 6 at_).2.addr, .int .u8 (st.asks 6 at_).2.data, .int .u8 0]) ∧ Rep L (st.asks 6 at_).1 w' ∧ Kept L.own w w' := by
  have hfr := hr.fresh
  obtain ⟨l1, l2, l3⟩ := hr.lt
  obtain ⟨a0, a1⟩ := hi.a
  obtain ⟨x0, x1⟩ := hi.x
  have hb2 : st.bank = 0 ∨ st.bank = 1 := by have := hi.bank; omega
  obtain ⟨r0, r1⟩ := read_bounds hi hb at_
  have HF : Hid (st.asks 6 at_ = (st.takes 6 (st.read at_), ⟨5, at_, st.read at_, 0⟩)) := by simp [Hid, St.asks, St.target]
  have c1 := hr.c_a
  have c2 := hr.c_x
  have c3 := hr.c_carry
  have f3 := hr.f_carry
  have HN : Hid (bits .and .i64 st.a (st.read at_) = andN st.a (st.read at_)) := i64_and _ _ a0 a1 r0 r1
  obtain ⟨n0, n1⟩ := andN_bounds st.a (st.read at_) a0 a1 r0 r1
  go_enter Tryz.func72, Tryz.ntmps72
  go_wp2_with fail
  refine (Rread_any (hr.alloc _) hi hb at_ (by omega)).mono ?_
  rintro e w1 ⟨rfl, nq, rfl⟩
  go_wp2_with fail
  rw [HN.out]
  refine (Rset_any (st := st) ?hrep (andN st.a (st.read at_)) (by omega) (by omega)).mono ?_
  case hrep =>
    apply Rep.as
    · (repeat (with_reducible first | apply Rep.alloc | apply Rep.drewN | apply Rep.drew | apply Rep.set_bank | apply Rep.set_s0 | apply Rep.set_s1 | apply Rep.set_cause | apply Rep.set_left | apply Rep.set_down | apply Rep.set_a | apply Rep.set_x | apply Rep.set_pc | apply Rep.set_zero | apply Rep.set_carry | apply Rep.set_op | apply Rep.set_opd | apply Rep.set_phase | apply Rep.set_period | apply Rep.set_count | apply Rep.set_flag | apply Rep.set_age | apply Rep.set_window | apply Rep.set_windowed | apply Rep.set_key | apply Rep.set_out | apply Rep.set_inp | apply Rep.set_opn | apply Rep.set_place | apply Rep.set_rst | (apply Rep.other; case hb => exact hfr _ (by omega)) | exact hr | exact hr1 | exact hr2 | exact hr3))
    · rfl
  rintro e w2 ⟨rfl, hr1, k1⟩
  obtain ⟨hc, hf⟩ := kcell k1 (b := w.heap.size) (by simp) (hfr _ (Nat.le_refl _))
  have k2 : Kept L.own w w2 := by
    refine Kept.trans ?_ k1
    (repeat (with_reducible first | apply Kept.alloc | apply Kept.drewN | apply Kept.drew | apply Kept.rg | apply Kept.p | apply Kept.q | refine Kept.setCell ?_ (Or.inr (Nat.le_refl _)) _ | refine Kept.setCell ?_ (Or.inr (by omega)) _ | exact k1 | exact k2 | exact k3 | exact Kept.refl _ _))
  have hz : w.heap.size < w2.heap.size := by have := k1.size; simp at this; omega
  clear k1 c1 c2 c3 f3
  go_wp2
  rw [HF.out]
  refine bodyPost_ret (v := .agg #[.int .i64 5, .int .i64 at_, .int .u8 (st.read at_), .int .u8 0]) (by simp [results, Tryz.results72, go_sem, hc]) rfl ⟨rfl, ?r, ?k⟩
  case r =>
    apply Rep.as
    · (repeat (with_reducible first | apply Rep.alloc | apply Rep.drewN | apply Rep.drew | apply Rep.set_bank | apply Rep.set_s0 | apply Rep.set_s1 | apply Rep.set_cause | apply Rep.set_left | apply Rep.set_down | apply Rep.set_a | apply Rep.set_x | apply Rep.set_pc | apply Rep.set_zero | apply Rep.set_carry | apply Rep.set_op | apply Rep.set_opd | apply Rep.set_phase | apply Rep.set_period | apply Rep.set_count | apply Rep.set_flag | apply Rep.set_age | apply Rep.set_window | apply Rep.set_windowed | apply Rep.set_key | apply Rep.set_out | apply Rep.set_inp | apply Rep.set_opn | apply Rep.set_place | apply Rep.set_rst | (apply Rep.other; case hb => exact hfr _ (by omega)) | exact hr | exact hr1 | exact hr2 | exact hr3))
    · rfl
  case k => (repeat (with_reducible first | apply Kept.alloc | apply Kept.drewN | apply Kept.drew | apply Kept.rg | apply Kept.p | apply Kept.q | refine Kept.setCell ?_ (Or.inr (Nat.le_refl _)) _ | refine Kept.setCell ?_ (Or.inr (by omega)) _ | exact k1 | exact k2 | exact k3 | exact Kept.refl _ _))

set_option maxRecDepth 100000 in
set_option maxHeartbeats 400000 in
theorem Rasks_7 {L : Lay} {st : St} {w : World} (hr : Rep L st w) (hi : Inv st) (hb : 0 ≤ st.bank) (at_ : Int) (h0 : 0 ≤ at_) (h1 : at_ ≤ 255) :
    Calls Tryz.prog 72 #[.pointer (some ⟨L.g, 0, none⟩), .int .i64 7, .int .i64 at_] w fun e w' => e = .returned (.agg #[.int .i64 (st.asks 7 at_).2.kind, .int .i64 (st.asks 7 at_).2.addr, .int .u8 (st.asks 7 at_).2.data, .int .u8 0]) ∧ Rep L (st.asks 7 at_).1 w' ∧ Kept L.own w w' := by
  have hfr := hr.fresh
  obtain ⟨l1, l2, l3⟩ := hr.lt
  obtain ⟨a0, a1⟩ := hi.a
  obtain ⟨x0, x1⟩ := hi.x
  have hb2 : st.bank = 0 ∨ st.bank = 1 := by have := hi.bank; omega
  obtain ⟨r0, r1⟩ := read_bounds hi hb at_
  have HF : Hid (st.asks 7 at_ = (st.takes 7 (st.read at_), ⟨5, at_, st.read at_, 0⟩)) := by simp [Hid, St.asks, St.target]
  have c1 := hr.c_a
  have c2 := hr.c_x
  have c3 := hr.c_carry
  have f3 := hr.f_carry
  have HN : Hid (bits .or .i64 st.a (st.read at_) = orN st.a (st.read at_)) := i64_or _ _ a0 a1 r0 r1
  obtain ⟨n0, n1⟩ := orN_bounds st.a (st.read at_) a0 a1 r0 r1
  go_enter Tryz.func72, Tryz.ntmps72
  go_wp2_with fail
  refine (Rread_any (hr.alloc _) hi hb at_ (by omega)).mono ?_
  rintro e w1 ⟨rfl, nq, rfl⟩
  go_wp2_with fail
  rw [HN.out]
  refine (Rset_any (st := st) ?hrep (orN st.a (st.read at_)) (by omega) (by omega)).mono ?_
  case hrep =>
    apply Rep.as
    · (repeat (with_reducible first | apply Rep.alloc | apply Rep.drewN | apply Rep.drew | apply Rep.set_bank | apply Rep.set_s0 | apply Rep.set_s1 | apply Rep.set_cause | apply Rep.set_left | apply Rep.set_down | apply Rep.set_a | apply Rep.set_x | apply Rep.set_pc | apply Rep.set_zero | apply Rep.set_carry | apply Rep.set_op | apply Rep.set_opd | apply Rep.set_phase | apply Rep.set_period | apply Rep.set_count | apply Rep.set_flag | apply Rep.set_age | apply Rep.set_window | apply Rep.set_windowed | apply Rep.set_key | apply Rep.set_out | apply Rep.set_inp | apply Rep.set_opn | apply Rep.set_place | apply Rep.set_rst | (apply Rep.other; case hb => exact hfr _ (by omega)) | exact hr | exact hr1 | exact hr2 | exact hr3))
    · rfl
  rintro e w2 ⟨rfl, hr1, k1⟩
  obtain ⟨hc, hf⟩ := kcell k1 (b := w.heap.size) (by simp) (hfr _ (Nat.le_refl _))
  have k2 : Kept L.own w w2 := by
    refine Kept.trans ?_ k1
    (repeat (with_reducible first | apply Kept.alloc | apply Kept.drewN | apply Kept.drew | apply Kept.rg | apply Kept.p | apply Kept.q | refine Kept.setCell ?_ (Or.inr (Nat.le_refl _)) _ | refine Kept.setCell ?_ (Or.inr (by omega)) _ | exact k1 | exact k2 | exact k3 | exact Kept.refl _ _))
  have hz : w.heap.size < w2.heap.size := by have := k1.size; simp at this; omega
  clear k1 c1 c2 c3 f3
  go_wp2
  rw [HF.out]
  refine bodyPost_ret (v := .agg #[.int .i64 5, .int .i64 at_, .int .u8 (st.read at_), .int .u8 0]) (by simp [results, Tryz.results72, go_sem, hc]) rfl ⟨rfl, ?r, ?k⟩
  case r =>
    apply Rep.as
    · (repeat (with_reducible first | apply Rep.alloc | apply Rep.drewN | apply Rep.drew | apply Rep.set_bank | apply Rep.set_s0 | apply Rep.set_s1 | apply Rep.set_cause | apply Rep.set_left | apply Rep.set_down | apply Rep.set_a | apply Rep.set_x | apply Rep.set_pc | apply Rep.set_zero | apply Rep.set_carry | apply Rep.set_op | apply Rep.set_opd | apply Rep.set_phase | apply Rep.set_period | apply Rep.set_count | apply Rep.set_flag | apply Rep.set_age | apply Rep.set_window | apply Rep.set_windowed | apply Rep.set_key | apply Rep.set_out | apply Rep.set_inp | apply Rep.set_opn | apply Rep.set_place | apply Rep.set_rst | (apply Rep.other; case hb => exact hfr _ (by omega)) | exact hr | exact hr1 | exact hr2 | exact hr3))
    · rfl
  case k => (repeat (with_reducible first | apply Kept.alloc | apply Kept.drewN | apply Kept.drew | apply Kept.rg | apply Kept.p | apply Kept.q | refine Kept.setCell ?_ (Or.inr (Nat.le_refl _)) _ | refine Kept.setCell ?_ (Or.inr (by omega)) _ | exact k1 | exact k2 | exact k3 | exact Kept.refl _ _))

set_option maxRecDepth 100000 in
set_option maxHeartbeats 400000 in
theorem Rasks_8 {L : Lay} {st : St} {w : World} (hr : Rep L st w) (hi : Inv st) (hb : 0 ≤ st.bank) (at_ : Int) (h0 : 0 ≤ at_) (h1 : at_ ≤ 255) :
    Calls Tryz.prog 72 #[.pointer (some ⟨L.g, 0, none⟩), .int .i64 8, .int .i64 at_] w fun e w' => e = .returned (.agg #[.int .i64 (st.asks 8 at_).2.kind, .int .i64 (st.asks 8 at_).2.addr, .int .u8 (st.asks 8 at_).2.data, .int .u8 0]) ∧ Rep L (st.asks 8 at_).1 w' ∧ Kept L.own w w' := by
  have hfr := hr.fresh
  obtain ⟨l1, l2, l3⟩ := hr.lt
  obtain ⟨a0, a1⟩ := hi.a
  obtain ⟨x0, x1⟩ := hi.x
  have hb2 : st.bank = 0 ∨ st.bank = 1 := by have := hi.bank; omega
  obtain ⟨r0, r1⟩ := read_bounds hi hb at_
  have HF : Hid (st.asks 8 at_ = (st.takes 8 (st.read at_), ⟨5, at_, st.read at_, 0⟩)) := by simp [Hid, St.asks, St.target]
  have c1 := hr.c_a
  have c2 := hr.c_x
  have c3 := hr.c_carry
  have f3 := hr.f_carry
  have HN : Hid (bits .xor .i64 st.a (st.read at_) = xorN st.a (st.read at_)) := i64_xor _ _ a0 a1 r0 r1
  obtain ⟨n0, n1⟩ := xorN_bounds st.a (st.read at_) a0 a1 r0 r1
  go_enter Tryz.func72, Tryz.ntmps72
  go_wp2_with fail
  refine (Rread_any (hr.alloc _) hi hb at_ (by omega)).mono ?_
  rintro e w1 ⟨rfl, nq, rfl⟩
  go_wp2_with fail
  rw [HN.out]
  refine (Rset_any (st := st) ?hrep (xorN st.a (st.read at_)) (by omega) (by omega)).mono ?_
  case hrep =>
    apply Rep.as
    · (repeat (with_reducible first | apply Rep.alloc | apply Rep.drewN | apply Rep.drew | apply Rep.set_bank | apply Rep.set_s0 | apply Rep.set_s1 | apply Rep.set_cause | apply Rep.set_left | apply Rep.set_down | apply Rep.set_a | apply Rep.set_x | apply Rep.set_pc | apply Rep.set_zero | apply Rep.set_carry | apply Rep.set_op | apply Rep.set_opd | apply Rep.set_phase | apply Rep.set_period | apply Rep.set_count | apply Rep.set_flag | apply Rep.set_age | apply Rep.set_window | apply Rep.set_windowed | apply Rep.set_key | apply Rep.set_out | apply Rep.set_inp | apply Rep.set_opn | apply Rep.set_place | apply Rep.set_rst | (apply Rep.other; case hb => exact hfr _ (by omega)) | exact hr | exact hr1 | exact hr2 | exact hr3))
    · rfl
  rintro e w2 ⟨rfl, hr1, k1⟩
  obtain ⟨hc, hf⟩ := kcell k1 (b := w.heap.size) (by simp) (hfr _ (Nat.le_refl _))
  have k2 : Kept L.own w w2 := by
    refine Kept.trans ?_ k1
    (repeat (with_reducible first | apply Kept.alloc | apply Kept.drewN | apply Kept.drew | apply Kept.rg | apply Kept.p | apply Kept.q | refine Kept.setCell ?_ (Or.inr (Nat.le_refl _)) _ | refine Kept.setCell ?_ (Or.inr (by omega)) _ | exact k1 | exact k2 | exact k3 | exact Kept.refl _ _))
  have hz : w.heap.size < w2.heap.size := by have := k1.size; simp at this; omega
  clear k1 c1 c2 c3 f3
  go_wp2
  rw [HF.out]
  refine bodyPost_ret (v := .agg #[.int .i64 5, .int .i64 at_, .int .u8 (st.read at_), .int .u8 0]) (by simp [results, Tryz.results72, go_sem, hc]) rfl ⟨rfl, ?r, ?k⟩
  case r =>
    apply Rep.as
    · (repeat (with_reducible first | apply Rep.alloc | apply Rep.drewN | apply Rep.drew | apply Rep.set_bank | apply Rep.set_s0 | apply Rep.set_s1 | apply Rep.set_cause | apply Rep.set_left | apply Rep.set_down | apply Rep.set_a | apply Rep.set_x | apply Rep.set_pc | apply Rep.set_zero | apply Rep.set_carry | apply Rep.set_op | apply Rep.set_opd | apply Rep.set_phase | apply Rep.set_period | apply Rep.set_count | apply Rep.set_flag | apply Rep.set_age | apply Rep.set_window | apply Rep.set_windowed | apply Rep.set_key | apply Rep.set_out | apply Rep.set_inp | apply Rep.set_opn | apply Rep.set_place | apply Rep.set_rst | (apply Rep.other; case hb => exact hfr _ (by omega)) | exact hr | exact hr1 | exact hr2 | exact hr3))
    · rfl
  case k => (repeat (with_reducible first | apply Kept.alloc | apply Kept.drewN | apply Kept.drew | apply Kept.rg | apply Kept.p | apply Kept.q | refine Kept.setCell ?_ (Or.inr (Nat.le_refl _)) _ | refine Kept.setCell ?_ (Or.inr (by omega)) _ | exact k1 | exact k2 | exact k3 | exact Kept.refl _ _))

set_option maxRecDepth 100000 in
set_option maxHeartbeats 400000 in
theorem Rasks_9 {L : Lay} {st : St} {w : World} (hr : Rep L st w) (hi : Inv st) (hb : 0 ≤ st.bank) (at_ : Int) (h0 : 0 ≤ at_) (h1 : at_ ≤ 255) :
    Calls Tryz.prog 72 #[.pointer (some ⟨L.g, 0, none⟩), .int .i64 9, .int .i64 at_] w fun e w' => e = .returned (.agg #[.int .i64 (st.asks 9 at_).2.kind, .int .i64 (st.asks 9 at_).2.addr, .int .u8 (st.asks 9 at_).2.data, .int .u8 0]) ∧ Rep L (st.asks 9 at_).1 w' ∧ Kept L.own w w' := by
  have hfr := hr.fresh
  obtain ⟨l1, l2, l3⟩ := hr.lt
  obtain ⟨a0, a1⟩ := hi.a
  obtain ⟨x0, x1⟩ := hi.x
  have hb2 : st.bank = 0 ∨ st.bank = 1 := by have := hi.bank; omega
  obtain ⟨r0, r1⟩ := read_bounds hi hb ((at_ + st.x) % 256)
  have HF : Hid (st.asks 9 at_ = (st.takes 9 (st.read ((at_ + st.x) % 256)), ⟨5, ((at_ + st.x) % 256), st.read ((at_ + st.x) % 256), 0⟩)) := by simp [Hid, St.asks, St.target]
  have c1 := hr.c_a
  have c2 := hr.c_x
  have c3 := hr.c_carry
  have f3 := hr.f_carry
  go_enter Tryz.func72, Tryz.ntmps72
  go_wp2_with fail
  refine (Rread_any (hr.alloc _) hi hb ((at_ + st.x) % 256) (by omega)).mono ?_
  rintro e w1 ⟨rfl, nq, rfl⟩
  go_wp2_with fail
  refine (Rset_any (st := st) ?hrep (st.read ((at_ + st.x) % 256)) (by omega) (by omega)).mono ?_
  case hrep =>
    apply Rep.as
    · (repeat (with_reducible first | apply Rep.alloc | apply Rep.drewN | apply Rep.drew | apply Rep.set_bank | apply Rep.set_s0 | apply Rep.set_s1 | apply Rep.set_cause | apply Rep.set_left | apply Rep.set_down | apply Rep.set_a | apply Rep.set_x | apply Rep.set_pc | apply Rep.set_zero | apply Rep.set_carry | apply Rep.set_op | apply Rep.set_opd | apply Rep.set_phase | apply Rep.set_period | apply Rep.set_count | apply Rep.set_flag | apply Rep.set_age | apply Rep.set_window | apply Rep.set_windowed | apply Rep.set_key | apply Rep.set_out | apply Rep.set_inp | apply Rep.set_opn | apply Rep.set_place | apply Rep.set_rst | (apply Rep.other; case hb => exact hfr _ (by omega)) | exact hr | exact hr1 | exact hr2 | exact hr3))
    · rfl
  rintro e w2 ⟨rfl, hr1, k1⟩
  obtain ⟨hc, hf⟩ := kcell k1 (b := w.heap.size) (by simp) (hfr _ (Nat.le_refl _))
  have k2 : Kept L.own w w2 := by
    refine Kept.trans ?_ k1
    (repeat (with_reducible first | apply Kept.alloc | apply Kept.drewN | apply Kept.drew | apply Kept.rg | apply Kept.p | apply Kept.q | refine Kept.setCell ?_ (Or.inr (Nat.le_refl _)) _ | refine Kept.setCell ?_ (Or.inr (by omega)) _ | exact k1 | exact k2 | exact k3 | exact Kept.refl _ _))
  have hz : w.heap.size < w2.heap.size := by have := k1.size; simp at this; omega
  clear k1 c1 c2 c3 f3
  go_wp2
  rw [HF.out]
  refine bodyPost_ret (v := .agg #[.int .i64 5, .int .i64 ((at_ + st.x) % 256), .int .u8 (st.read ((at_ + st.x) % 256)), .int .u8 0]) (by simp [results, Tryz.results72, go_sem, hc]) rfl ⟨rfl, ?r, ?k⟩
  case r =>
    apply Rep.as
    · (repeat (with_reducible first | apply Rep.alloc | apply Rep.drewN | apply Rep.drew | apply Rep.set_bank | apply Rep.set_s0 | apply Rep.set_s1 | apply Rep.set_cause | apply Rep.set_left | apply Rep.set_down | apply Rep.set_a | apply Rep.set_x | apply Rep.set_pc | apply Rep.set_zero | apply Rep.set_carry | apply Rep.set_op | apply Rep.set_opd | apply Rep.set_phase | apply Rep.set_period | apply Rep.set_count | apply Rep.set_flag | apply Rep.set_age | apply Rep.set_window | apply Rep.set_windowed | apply Rep.set_key | apply Rep.set_out | apply Rep.set_inp | apply Rep.set_opn | apply Rep.set_place | apply Rep.set_rst | (apply Rep.other; case hb => exact hfr _ (by omega)) | exact hr | exact hr1 | exact hr2 | exact hr3))
    · rfl
  case k => (repeat (with_reducible first | apply Kept.alloc | apply Kept.drewN | apply Kept.drew | apply Kept.rg | apply Kept.p | apply Kept.q | refine Kept.setCell ?_ (Or.inr (Nat.le_refl _)) _ | refine Kept.setCell ?_ (Or.inr (by omega)) _ | exact k1 | exact k2 | exact k3 | exact Kept.refl _ _))

theorem Rasks_any {L : Lay} {st : St} {w : World} (hr : Rep L st w) (hi : Inv st) (hb : 0 ≤ st.bank) (op at_ : Int) (h0 : 0 ≤ at_) (h1 : at_ ≤ 255) (o2 : 2 ≤ op) (o3 : op ≤ 10) :
    Calls Tryz.prog 72 #[.pointer (some ⟨L.g, 0, none⟩), .int .i64 op, .int .i64 at_] w fun e w' => e = .returned (.agg #[.int .i64 (st.asks op at_).2.kind, .int .i64 (st.asks op at_).2.addr, .int .u8 (st.asks op at_).2.data, .int .u8 0]) ∧ Rep L (st.asks op at_).1 w' ∧ Kept L.own w w' := by
  have h : op = 2 ∨ op = 3 ∨ op = 4 ∨ op = 5 ∨ op = 6 ∨ op = 7 ∨ op = 8 ∨ op = 9 ∨ op = 10 := by omega
  rcases h with rfl | rfl | rfl | rfl | rfl | rfl | rfl | rfl | rfl
  · exact Rasks_2 hr hi hb at_ h0 h1
  · exact Rasks_3 hr hi hb at_ h0 h1
  · exact Rasks_4 hr hi hb at_ h0 h1
  · exact Rasks_5 hr hi hb at_ h0 h1
  · exact Rasks_6 hr hi hb at_ h0 h1
  · exact Rasks_7 hr hi hb at_ h0 h1
  · exact Rasks_8 hr hi hb at_ h0 h1
  · exact Rasks_9 hr hi hb at_ h0 h1
  · exact Rasks_10 hr hi hb at_ h0 h1

end Go.Proofs.YtikdbpphbdbdnaaGreat
