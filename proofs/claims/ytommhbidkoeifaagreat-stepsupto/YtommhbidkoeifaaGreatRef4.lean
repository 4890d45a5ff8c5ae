/- The document's board: what is written; how long an instruction is; instructions of one and two cycles; the next byte. -/
import Derived.Test.YtommhbidkoeifaaGreatRef3
namespace Go.Proofs.YtommhbidkoeifaaGreat
open Go.RowKit

set_option maxRecDepth 100000 in
set_option maxHeartbeats 400000 in
theorem Rw_mem {L : Lay} {st : St} {w : World} (hr : Rep L st w) (v : Int) (k : Nat) (hk : k < 128) :
    Calls Tryz.prog 77 #[.pointer (some ⟨L.g, 0, none⟩), .int .i64 (k : Int), .int .u8 v] w fun e w' => e = .returned (.tuple #[]) ∧ Rep L (st.write k v) w' ∧ Kept L.own w w' := by
  have HF : Hid (st.write k v = { st with mem := upd st.mem k v }) := by
    have h1 : (k : Int) < 128 := by omega
    simp [Hid, St.write, h1]
  have c1 := hr.c_mem k hk
  have f1 := hr.fz k (by omega)
  have hk' : (k : Int) < 128 := by omega
  go_enter Tryz.func77, Tryz.ntmps77
  go_wp2
  (first | go_end0 | refine bodyPost_ret (results_none rfl _ _ _) rfl ?_)
  exact ⟨rfl, (hr.set_mem k hk _).as HF.out.symm, (Kept.refl _ _).rg _ _⟩

set_option maxRecDepth 100000 in
set_option maxHeartbeats 400000 in
theorem Rw_period {L : Lay} {st : St} {w : World} (hr : Rep L st w) (v : Int) (h0 : 0 ≤ v) (h1 : v ≤ 255) :
    Calls Tryz.prog 77 #[.pointer (some ⟨L.g, 0, none⟩), .int .i64 192, .int .u8 v] w fun e w' => e = .returned (.tuple #[]) ∧ Rep L (st.write 192 v) w' ∧ Kept L.own w w' := by
  have HF : Hid (st.write 192 v = { st with period := v, count := v, flag := false }) := by simp [Hid, St.write]
  have c1 := hr.c_period
  have f1 := hr.f_period
  have c2 := hr.c_count
  have f2 := hr.f_count
  have c3 := hr.c_flag
  have f3 := hr.f_flag
  go_enter Tryz.func77, Tryz.ntmps77
  go_wp2
  (first | go_end0 | refine bodyPost_ret (results_none rfl _ _ _) rfl ?_)
  exact ⟨rfl, (((hr.set_period _).set_count _).set_flag _).as HF.out.symm, (((Kept.refl _ _).rg _ _).rg _ _).rg _ _⟩

set_option maxRecDepth 100000 in
set_option maxHeartbeats 400000 in
theorem Rw_flag {L : Lay} {st : St} {w : World} (hr : Rep L st w) (v : Int) :
    Calls Tryz.prog 77 #[.pointer (some ⟨L.g, 0, none⟩), .int .i64 194, .int .u8 v] w fun e w' => e = .returned (.tuple #[]) ∧ Rep L (st.write 194 v) w' ∧ Kept L.own w w' := by
  have HF : Hid (st.write 194 v = { st with flag := false }) := by simp [Hid, St.write]
  have c3 := hr.c_flag
  have f3 := hr.f_flag
  go_enter Tryz.func77, Tryz.ntmps77
  go_wp2
  (first | go_end0 | refine bodyPost_ret (results_none rfl _ _ _) rfl ?_)
  exact ⟨rfl, (hr.set_flag _).as HF.out.symm, (Kept.refl _ _).rg _ _⟩

set_option maxRecDepth 100000 in
set_option maxHeartbeats 400000 in
theorem Rw_keys {L : Lay} {st : St} {w : World} (hr : Rep L st w) (v : Int) (hb : st.bank = 0 ∨ st.bank = 1) :
    Calls Tryz.prog 77 #[.pointer (some ⟨L.g, 0, none⟩), .int .i64 195, .int .u8 v] w fun e w' => e = .returned (.tuple #[]) ∧ Rep L (st.write 195 v) w' ∧ Kept L.own w w' := by
  have HF : Hid (st.write 195 v = st.keys v) := by simp [Hid, St.write]
  go_enter Tryz.func77, Tryz.ntmps77
  go_wp2_with fail
  refine (Rkeys_any hr hb v).mono ?_
  rintro e w1 ⟨rfl, hr1, k1⟩
  go_wp2
  (first | go_end0 | refine bodyPost_ret (results_none rfl _ _ _) rfl ?_)
  exact ⟨rfl, hr1.as HF.out.symm, k1⟩

set_option maxRecDepth 100000 in
set_option maxHeartbeats 400000 in
theorem Rw_window {L : Lay} {st : St} {w : World} (hr : Rep L st w) (v : Int) (h0 : 0 ≤ v) (h1 : v ≤ 200) (hw : st.windowed = false) :
    Calls Tryz.prog 77 #[.pointer (some ⟨L.g, 0, none⟩), .int .i64 196, .int .u8 v] w fun e w' => e = .returned (.tuple #[]) ∧ Rep L (st.write 196 v) w' ∧ Kept L.own w w' := by
  have HF : Hid (st.write 196 v = { st with window := v, windowed := true }) := by simp [Hid, St.write, hw, h1]
  have c1 := hr.c_windowed
  rw [hw] at c1
  have f1 := hr.f_windowed
  have c2 := hr.c_window
  have f2 := hr.f_window
  clear hw
  go_enter Tryz.func77, Tryz.ntmps77
  go_wp2
  (first | go_end0 | refine bodyPost_ret (results_none rfl _ _ _) rfl ?_)
  exact ⟨rfl, ((hr.set_window _).set_windowed _).as HF.out.symm, ((Kept.refl _ _).rg _ _).rg _ _⟩

set_option maxRecDepth 100000 in
set_option maxHeartbeats 400000 in
theorem Rw_wide {L : Lay} {st : St} {w : World} (hr : Rep L st w) (v : Int) (h1 : 200 < v) (hw : st.windowed = false) :
    Calls Tryz.prog 77 #[.pointer (some ⟨L.g, 0, none⟩), .int .i64 196, .int .u8 v] w fun e w' => e = .returned (.tuple #[]) ∧ Rep L (st.write 196 v) w' ∧ Kept L.own w w' := by
  have HF : Hid (st.write 196 v = st) := by
    have h2 : ¬ v ≤ 200 := by omega
    simp [Hid, St.write, hw, h2]
  have c1 := hr.c_windowed
  rw [hw] at c1
  clear hw
  go_enter Tryz.func77, Tryz.ntmps77
  go_wp2
  (first | go_end0 | refine bodyPost_ret (results_none rfl _ _ _) rfl ?_)
  exact ⟨rfl, hr.as HF.out.symm, Kept.refl _ _⟩

set_option maxRecDepth 100000 in
set_option maxHeartbeats 400000 in
theorem Rw_again {L : Lay} {st : St} {w : World} (hr : Rep L st w) (v : Int) (hw : st.windowed = true) :
    Calls Tryz.prog 77 #[.pointer (some ⟨L.g, 0, none⟩), .int .i64 196, .int .u8 v] w fun e w' => e = .returned (.tuple #[]) ∧ Rep L (st.write 196 v) w' ∧ Kept L.own w w' := by
  have HF : Hid (st.write 196 v = st) := by simp [Hid, St.write, hw]
  have c1 := hr.c_windowed
  rw [hw] at c1
  clear hw
  go_enter Tryz.func77, Tryz.ntmps77
  go_wp2
  (first | go_end0 | refine bodyPost_ret (results_none rfl _ _ _) rfl ?_)
  exact ⟨rfl, hr.as HF.out.symm, Kept.refl _ _⟩

set_option maxRecDepth 100000 in
set_option maxHeartbeats 400000 in
theorem Rw_out {L : Lay} {st : St} {w : World} (hr : Rep L st w) (v : Int) :
    Calls Tryz.prog 77 #[.pointer (some ⟨L.g, 0, none⟩), .int .i64 197, .int .u8 v] w fun e w' => e = .returned (.tuple #[]) ∧ Rep L (st.write 197 v) w' ∧ Kept L.own w w' := by
  have HF : Hid (st.write 197 v = { st with out := v }) := by simp [Hid, St.write]
  have c1 := hr.c_out
  have f1 := hr.f_out
  go_enter Tryz.func77, Tryz.ntmps77
  go_wp2
  (first | go_end0 | refine bodyPost_ret (results_none rfl _ _ _) rfl ?_)
  exact ⟨rfl, (hr.set_out _).as HF.out.symm, (Kept.refl _ _).rg _ _⟩

set_option maxRecDepth 100000 in
set_option maxHeartbeats 400000 in
theorem Rw_upd {L : Lay} {st : St} {w : World} (hr : Rep L st w) (v : Int) (a : Int) (ha : 199 ≤ a) (hi : Inv st) (hb : st.bank = 0 ∨ st.bank = 1) (h0 : 0 ≤ v) (h1 : v ≤ 255) :
    Calls Tryz.prog 77 #[.pointer (some ⟨L.g, 0, none⟩), .int .i64 a, .int .u8 v] w fun e w' => e = .returned (.tuple #[]) ∧ Rep L (st.write a v) w' ∧ Kept L.own w w' := by
  have HF : Hid (st.write a v = st.updates a v) := by
    unfold St.write Hid
    rw [if_neg (by omega), if_neg (by omega), if_neg (by omega), if_neg (by omega), if_neg (by omega), if_neg (by omega), if_pos ha]
  have e1 : (a == 192) = false := beq_eq_false_iff_ne.2 (by omega)
  have e2 : (a == 194) = false := beq_eq_false_iff_ne.2 (by omega)
  have e3 : (a == 195) = false := beq_eq_false_iff_ne.2 (by omega)
  have e4 : (a == 196) = false := beq_eq_false_iff_ne.2 (by omega)
  have e5 : (a == 197) = false := beq_eq_false_iff_ne.2 (by omega)
  go_enter Tryz.func77, Tryz.ntmps77
  go_wp2_with fail
  refine (Rupdates_any hr hi hb a v h0 h1).mono ?_
  rintro e w1 ⟨rfl, hr1, k1⟩
  go_wp2
  (first | go_end0 | refine bodyPost_ret (results_none rfl _ _ _) rfl ?_)
  exact ⟨rfl, hr1.as HF.out.symm, k1⟩

set_option maxRecDepth 100000 in
set_option maxHeartbeats 400000 in
theorem Rw_none {L : Lay} {st : St} {w : World} (hr : Rep L st w) (v : Int) (a : Int) (h : (128 ≤ a ∧ a < 192) ∨ a = 193 ∨ a = 198) :
    Calls Tryz.prog 77 #[.pointer (some ⟨L.g, 0, none⟩), .int .i64 a, .int .u8 v] w fun e w' => e = .returned (.tuple #[]) ∧ Rep L (st.write a v) w' ∧ Kept L.own w w' := by
  have HF : Hid (st.write a v = st) := by
    unfold St.write Hid
    rw [if_neg (by omega), if_neg (by omega), if_neg (by omega), if_neg (by omega), if_neg (by omega), if_neg (by omega), if_neg (by omega)]
  have e1 : (a == 192) = false := beq_eq_false_iff_ne.2 (by omega)
  have e2 : (a == 194) = false := beq_eq_false_iff_ne.2 (by omega)
  have e3 : (a == 195) = false := beq_eq_false_iff_ne.2 (by omega)
  have e4 : (a == 196) = false := beq_eq_false_iff_ne.2 (by omega)
  have e5 : (a == 197) = false := beq_eq_false_iff_ne.2 (by omega)
  have e6 : 128 ≤ a := by omega
  have e7 : a < 199 := by omega
  clear h
  go_enter Tryz.func77, Tryz.ntmps77
  go_wp2
  (first | go_end0 | refine bodyPost_ret (results_none rfl _ _ _) rfl ?_)
  exact ⟨rfl, hr.as HF.out.symm, Kept.refl _ _⟩

theorem Rwrite_any {L : Lay} {st : St} {w : World} (hr : Rep L st w) (hi : Inv st) (hb : st.bank = 0 ∨ st.bank = 1) (a v : Int) (ha : 0 ≤ a) (h0 : 0 ≤ v) (h1 : v ≤ 255) :
    Calls Tryz.prog 77 #[.pointer (some ⟨L.g, 0, none⟩), .int .i64 a, .int .u8 v] w fun e w' => e = .returned (.tuple #[]) ∧ Rep L (st.write a v) w' ∧ Kept L.own w w' := by
  by_cases e0 : a < 128
  · obtain ⟨k, rfl⟩ := Int.eq_ofNat_of_zero_le ha
    exact Rw_mem hr v k (by omega)
  by_cases e1 : a = 192
  · subst e1; exact Rw_period hr v h0 h1
  by_cases e2 : a = 194
  · subst e2; exact Rw_flag hr v
  by_cases e3 : a = 195
  · subst e3; exact Rw_keys hr v hb
  by_cases e4 : a = 196
  · subst e4
    cases hw : st.windowed
    · by_cases h2 : v ≤ 200
      · exact Rw_window hr v h0 h2 hw
      · exact Rw_wide hr v (by omega) hw
    · exact Rw_again hr v hw
  by_cases e5 : a = 197
  · subst e5; exact Rw_out hr v
  by_cases e6 : 199 ≤ a
  · exact Rw_upd hr v a e6 hi hb h0 h1
  · exact Rw_none hr v a (by omega)

set_option maxRecDepth 100000 in
set_option maxHeartbeats 1000000 in
theorem rLength_any (op : Int) (w : World) (h0 : 0 ≤ op) :
    Calls Tryz.prog 65 #[.int .i64 op] w fun e w' => e = .returned (.int .i64 (opLen op)) ∧ w' = w := by
  by_cases hbig : 24 < op
  · have HF : Hid (opLen op = 0) := by
      unfold opLen Hid
      rw [if_neg (by omega), if_neg (by omega), if_neg (by omega)]
    have b1 : (op == 0) = false := beq_eq_false_iff_ne.2 (by omega)
    have b2 : (op == 11) = false := beq_eq_false_iff_ne.2 (by omega)
    have b3 : (op == 12) = false := beq_eq_false_iff_ne.2 (by omega)
    have b4 : (op == 13) = false := beq_eq_false_iff_ne.2 (by omega)
    have b5 : (op == 14) = false := beq_eq_false_iff_ne.2 (by omega)
    have b6 : (op == 24) = false := beq_eq_false_iff_ne.2 (by omega)
    have b7 : (op == 1) = false := beq_eq_false_iff_ne.2 (by omega)
    go_enter Tryz.func65, Tryz.ntmps65
    go_wp2
    go_ret
    exact ⟨ret_int HF.out.symm, rfl⟩
  · have h : op = 0 ∨ op = 1 ∨ op = 2 ∨ op = 3 ∨ op = 4 ∨ op = 5 ∨ op = 6 ∨ op = 7 ∨ op = 8 ∨ op = 9 ∨ op = 10 ∨ op = 11 ∨ op = 12 ∨ op = 13 ∨ op = 14 ∨ op = 15 ∨ op = 16 ∨ op = 17 ∨ op = 18 ∨ op = 19 ∨ op = 20 ∨ op = 21 ∨ op = 22 ∨ op = 23 ∨ op = 24 := by omega
    rcases h with rfl | rfl | rfl | rfl | rfl | rfl | rfl | rfl | rfl | rfl | rfl | rfl | rfl | rfl | rfl | rfl | rfl | rfl | rfl | rfl | rfl | rfl | rfl | rfl | rfl
    all_goals
      go_enter Tryz.func65, Tryz.ntmps65
      go_wp2
      go_ret
      exact ⟨rfl, rfl⟩


end Go.Proofs.YtommhbidkoeifaaGreat
