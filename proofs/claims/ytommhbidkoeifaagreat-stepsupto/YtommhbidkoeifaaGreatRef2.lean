/- The document's board: what is read at an address. -/
import Derived.Test.YtommhbidkoeifaaGreatRef1
namespace Go.Proofs.YtommhbidkoeifaaGreat
open Go.RowKit

set_option maxHeartbeats 400000 in
theorem Rread_mem {L : Lay} {st : St} {w : World} (hr : Rep L st w) (k : Nat) (hk : k < 128) :
    Calls Tryz.prog 75 #[.pointer (some ⟨L.g, 0, none⟩), .int .i64 (k : Int)] w fun e w' => e = .returned (.int .u8 (st.read k)) ∧ ∃ n, w' = w.drewN n := by
  have HF : Hid (st.read k = st.mem k) := by
    have h1 : (k : Int) < 128 := by omega
    simp [Hid, St.read, h1]
  have c1 := hr.c_mem k hk
  have hk' : (k : Int) < 128 := by omega
  go_enter Tryz.func75, Tryz.ntmps75
  go_wp2
  go_ret
  exact ⟨ret_int HF.out.symm, 0, rfl⟩

set_option maxRecDepth 100000 in
set_option maxHeartbeats 400000 in
theorem Rread_bank0 {L : Lay} {st : St} {w : World} (hr : Rep L st w) (k : Int) (j : Nat) (hkj : k = 128 + (j : Int)) (hj : j < 64) (hb : st.bank = 0) :
    Calls Tryz.prog 75 #[.pointer (some ⟨L.g, 0, none⟩), .int .i64 k] w fun e w' => e = .returned (.int .u8 (st.read k)) ∧ ∃ n, w' = w.drewN n := by
  have HF : Hid (st.read k = st.b0 j) := by
    have h1 : ¬ k < 128 := by omega
    have h2 : k < 192 := by omega
    have h3 : (k - 128).toNat = j := by omega
    simp [Hid, St.read, h1, h2, h3, St.inBank, hb]
  have c1 := hr.c_p
  have c2 := hr.c_bank
  rw [hb] at c2
  have c3 := (hr.r0 j hj).1
  have hk1 : 128 ≤ k := by omega
  have hk2 : k < 192 := by omega
  have hk3 : (k - 128).toNat = j := by omega
  have hk4 : k - 128 < 64 := by omega
  have hk5 : 0 ≤ k - 128 := by omega
  clear hkj hb
  go_enter Tryz.func75, Tryz.ntmps75
  go_wp2
  go_quiet (fail)
  go_wp2
  go_ret
  exact ⟨ret_int HF.out.symm, _, rfl⟩

set_option maxRecDepth 100000 in
set_option maxHeartbeats 400000 in
theorem Rread_bank1 {L : Lay} {st : St} {w : World} (hr : Rep L st w) (k : Int) (j : Nat) (hkj : k = 128 + (j : Int)) (hj : j < 64) (hb : st.bank = 1) :
    Calls Tryz.prog 75 #[.pointer (some ⟨L.g, 0, none⟩), .int .i64 k] w fun e w' => e = .returned (.int .u8 (st.read k)) ∧ ∃ n, w' = w.drewN n := by
  have HF : Hid (st.read k = st.b1 j) := by
    have h1 : ¬ k < 128 := by omega
    have h2 : k < 192 := by omega
    have h3 : (k - 128).toNat = j := by omega
    simp [Hid, St.read, h1, h2, h3, St.inBank, hb]
  have c1 := hr.c_q
  have c2 := hr.c_bank
  rw [hb] at c2
  have c3 := (hr.r1 j hj).1
  have hk1 : 128 ≤ k := by omega
  have hk2 : k < 192 := by omega
  have hk3 : (k - 128).toNat = j := by omega
  have hk4 : k - 128 < 64 := by omega
  have hk5 : 0 ≤ k - 128 := by omega
  clear hkj hb
  go_enter Tryz.func75, Tryz.ntmps75
  go_wp2
  go_quiet (fail)
  go_wp2
  go_ret
  exact ⟨ret_int HF.out.symm, _, rfl⟩

set_option maxRecDepth 100000 in
set_option maxHeartbeats 400000 in
theorem Rread_other0 {L : Lay} {st : St} {w : World} (hr : Rep L st w) (hi : Inv st) (hb : st.bank = 0) :
    Calls Tryz.prog 75 #[.pointer (some ⟨L.g, 0, none⟩), .int .i64 201] w fun e w' => e = .returned (.int .u8 (st.read 201)) ∧ ∃ n, w' = w.drewN n := by
  have HF : Hid (st.read 201 = st.b1 st.place.toNat) := by simp [Hid, St.read, St.inBank, hb]
  have c1 := hr.c_q
  have c2 := hr.c_bank
  rw [hb] at c2
  have c4 := hr.c_place
  have c3 := (hr.r1 st.place.toNat (by have := hi.place; omega)).1
  have hk4 : st.place < 64 := by have := hi.place; omega
  have hk5 : 0 ≤ st.place := hi.place.1
  clear hb
  go_enter Tryz.func75, Tryz.ntmps75
  go_wp2
  go_quiet (fail)
  go_wp2
  go_ret
  exact ⟨ret_int HF.out.symm, _, rfl⟩

set_option maxRecDepth 100000 in
set_option maxHeartbeats 400000 in
theorem Rread_other1 {L : Lay} {st : St} {w : World} (hr : Rep L st w) (hi : Inv st) (hb : st.bank = 1) :
    Calls Tryz.prog 75 #[.pointer (some ⟨L.g, 0, none⟩), .int .i64 201] w fun e w' => e = .returned (.int .u8 (st.read 201)) ∧ ∃ n, w' = w.drewN n := by
  have HF : Hid (st.read 201 = st.b0 st.place.toNat) := by simp [Hid, St.read, St.inBank, hb]
  have c1 := hr.c_p
  have c2 := hr.c_bank
  rw [hb] at c2
  have c4 := hr.c_place
  have c3 := (hr.r0 st.place.toNat (by have := hi.place; omega)).1
  have hk4 : st.place < 64 := by have := hi.place; omega
  have hk5 : 0 ≤ st.place := hi.place.1
  clear hb
  go_enter Tryz.func75, Tryz.ntmps75
  go_wp2
  go_quiet (fail)
  go_wp2
  go_ret
  exact ⟨ret_int HF.out.symm, _, rfl⟩

set_option maxRecDepth 100000 in
set_option maxHeartbeats 400000 in
theorem Rread_192 {L : Lay} {st : St} {w : World} (hr : Rep L st w) (hi : Inv st) :
    Calls Tryz.prog 75 #[.pointer (some ⟨L.g, 0, none⟩), .int .i64 192] w fun e w' => e = .returned (.int .u8 (st.read 192)) ∧ ∃ n, w' = w.drewN n := by
  have HF : Hid (st.read 192 = st.period) := by simp [Hid, St.read]
  have c1 := hr.c_period
  obtain ⟨b1, b2⟩ := hi.period
  go_enter Tryz.func75, Tryz.ntmps75
  go_wp2
  go_ret
  exact ⟨ret_int HF.out.symm, 0, rfl⟩

set_option maxRecDepth 100000 in
set_option maxHeartbeats 400000 in
theorem Rread_193 {L : Lay} {st : St} {w : World} (hr : Rep L st w) (hi : Inv st) :
    Calls Tryz.prog 75 #[.pointer (some ⟨L.g, 0, none⟩), .int .i64 193] w fun e w' => e = .returned (.int .u8 (st.read 193)) ∧ ∃ n, w' = w.drewN n := by
  have HF : Hid (st.read 193 = st.count) := by simp [Hid, St.read]
  have c1 := hr.c_count
  obtain ⟨b1, b2⟩ := hi.count
  go_enter Tryz.func75, Tryz.ntmps75
  go_wp2
  go_ret
  exact ⟨ret_int HF.out.symm, 0, rfl⟩

set_option maxRecDepth 100000 in
set_option maxHeartbeats 400000 in
theorem Rread_194 {L : Lay} {st : St} {w : World} (hr : Rep L st w) :
    Calls Tryz.prog 75 #[.pointer (some ⟨L.g, 0, none⟩), .int .i64 194] w fun e w' => e = .returned (.int .u8 (st.read 194)) ∧ ∃ n, w' = w.drewN n := by
  have HF : Hid (st.read 194 = flagN st.flag) := by simp [Hid, St.read]
  have c1 := hr.c_flag
  go_enter Tryz.func75, Tryz.ntmps75
  go_wp2_with (go_at_call 90; refine (rFlag_any _ _).mono ?_; rintro e w' ⟨rfl, rfl⟩)
  go_ret
  exact ⟨ret_int HF.out.symm, 0, rfl⟩

set_option maxRecDepth 100000 in
set_option maxHeartbeats 400000 in
theorem Rread_195 {L : Lay} {st : St} {w : World} (hr : Rep L st w) (hi : Inv st) :
    Calls Tryz.prog 75 #[.pointer (some ⟨L.g, 0, none⟩), .int .i64 195] w fun e w' => e = .returned (.int .u8 (st.read 195)) ∧ ∃ n, w' = w.drewN n := by
  have HF : Hid (st.read 195 = st.age) := by simp [Hid, St.read]
  have c1 := hr.c_age
  obtain ⟨b1, b2⟩ := hi.age
  go_enter Tryz.func75, Tryz.ntmps75
  go_wp2
  go_ret
  exact ⟨ret_int HF.out.symm, 0, rfl⟩

set_option maxRecDepth 100000 in
set_option maxHeartbeats 400000 in
theorem Rread_196 {L : Lay} {st : St} {w : World} (hr : Rep L st w) (hi : Inv st) :
    Calls Tryz.prog 75 #[.pointer (some ⟨L.g, 0, none⟩), .int .i64 196] w fun e w' => e = .returned (.int .u8 (st.read 196)) ∧ ∃ n, w' = w.drewN n := by
  have HF : Hid (st.read 196 = st.window) := by simp [Hid, St.read]
  have c1 := hr.c_window
  obtain ⟨b1, b2⟩ := hi.window
  go_enter Tryz.func75, Tryz.ntmps75
  go_wp2
  go_ret
  exact ⟨ret_int HF.out.symm, 0, rfl⟩

set_option maxRecDepth 100000 in
set_option maxHeartbeats 400000 in
theorem Rread_197 {L : Lay} {st : St} {w : World} (hr : Rep L st w) :
    Calls Tryz.prog 75 #[.pointer (some ⟨L.g, 0, none⟩), .int .i64 197] w fun e w' => e = .returned (.int .u8 (st.read 197)) ∧ ∃ n, w' = w.drewN n := by
  have HF : Hid (st.read 197 = st.out) := by simp [Hid, St.read]
  have c1 := hr.c_out
  go_enter Tryz.func75, Tryz.ntmps75
  go_wp2
  go_ret
  exact ⟨ret_int HF.out.symm, 0, rfl⟩

set_option maxRecDepth 100000 in
set_option maxHeartbeats 400000 in
theorem Rread_198 {L : Lay} {st : St} {w : World} (hr : Rep L st w) :
    Calls Tryz.prog 75 #[.pointer (some ⟨L.g, 0, none⟩), .int .i64 198] w fun e w' => e = .returned (.int .u8 (st.read 198)) ∧ ∃ n, w' = w.drewN n := by
  have HF : Hid (st.read 198 = st.inp) := by simp [Hid, St.read]
  have c1 := hr.c_inp
  go_enter Tryz.func75, Tryz.ntmps75
  go_wp2
  go_ret
  exact ⟨ret_int HF.out.symm, 0, rfl⟩

set_option maxRecDepth 100000 in
set_option maxHeartbeats 400000 in
theorem Rread_199 {L : Lay} {st : St} {w : World} (hr : Rep L st w) :
    Calls Tryz.prog 75 #[.pointer (some ⟨L.g, 0, none⟩), .int .i64 199] w fun e w' => e = .returned (.int .u8 (st.read 199)) ∧ ∃ n, w' = w.drewN n := by
  have HF : Hid (st.read 199 = flagN st.opn) := by simp [Hid, St.read]
  have c1 := hr.c_opn
  go_enter Tryz.func75, Tryz.ntmps75
  go_wp2_with (go_at_call 90; refine (rFlag_any _ _).mono ?_; rintro e w' ⟨rfl, rfl⟩)
  go_ret
  exact ⟨ret_int HF.out.symm, 0, rfl⟩

set_option maxRecDepth 100000 in
set_option maxHeartbeats 400000 in
theorem Rread_200 {L : Lay} {st : St} {w : World} (hr : Rep L st w) (hi : Inv st) :
    Calls Tryz.prog 75 #[.pointer (some ⟨L.g, 0, none⟩), .int .i64 200] w fun e w' => e = .returned (.int .u8 (st.read 200)) ∧ ∃ n, w' = w.drewN n := by
  have HF : Hid (st.read 200 = st.place) := by simp [Hid, St.read]
  have c1 := hr.c_place
  obtain ⟨b1, b2⟩ := hi.place
  go_enter Tryz.func75, Tryz.ntmps75
  go_wp2
  go_ret
  exact ⟨ret_int HF.out.symm, 0, rfl⟩

set_option maxRecDepth 100000 in
set_option maxHeartbeats 400000 in
theorem Rread_202 {L : Lay} {st : St} {w : World} (hr : Rep L st w) (hi : Inv st) :
    Calls Tryz.prog 75 #[.pointer (some ⟨L.g, 0, none⟩), .int .i64 202] w fun e w' => e = .returned (.int .u8 (st.read 202)) ∧ ∃ n, w' = w.drewN n := by
  have HF : Hid (st.read 202 = st.cause) := by simp [Hid, St.read]
  have c1 := hr.c_cause
  obtain ⟨b1, b2⟩ := hi.cause
  go_enter Tryz.func75, Tryz.ntmps75
  go_wp2
  go_ret
  exact ⟨ret_int HF.out.symm, 0, rfl⟩

set_option maxRecDepth 100000 in
set_option maxHeartbeats 400000 in
theorem Rread_203 {L : Lay} {st : St} {w : World} (hr : Rep L st w) (hb0 : 0 ≤ st.bank) (hb1 : st.bank ≤ 1) :
    Calls Tryz.prog 75 #[.pointer (some ⟨L.g, 0, none⟩), .int .i64 203] w fun e w' => e = .returned (.int .u8 (st.read 203)) ∧ ∃ n, w' = w.drewN n := by
  have HF : Hid (st.read 203 = st.bank) := by simp [Hid, St.read]
  have c1 := hr.c_bank
  go_enter Tryz.func75, Tryz.ntmps75
  go_wp2
  go_ret
  exact ⟨ret_int HF.out.symm, 0, rfl⟩

set_option maxRecDepth 100000 in
set_option maxHeartbeats 400000 in
theorem Rread_none {L : Lay} {st : St} {w : World} (k : Int) (hk : 203 < k) :
    Calls Tryz.prog 75 #[.pointer (some ⟨L.g, 0, none⟩), .int .i64 k] w fun e w' => e = .returned (.int .u8 (st.read k)) ∧ ∃ n, w' = w.drewN n := by
  have HF : Hid (st.read k = 0) := by
    unfold St.read Hid
    repeat rw [if_neg (by omega)]
  go_enter Tryz.func75, Tryz.ntmps75
  go_wp2
  go_ret
  exact ⟨ret_int HF.out.symm, 0, rfl⟩

theorem Rread_any {L : Lay} {st : St} {w : World} (hr : Rep L st w) (hi : Inv st) (hb : 0 ≤ st.bank) (k : Int) (h0 : 0 ≤ k) :
    Calls Tryz.prog 75 #[.pointer (some ⟨L.g, 0, none⟩), .int .i64 k] w fun e w' => e = .returned (.int .u8 (st.read k)) ∧ ∃ n, w' = w.drewN n := by
  have hb2 : st.bank = 0 ∨ st.bank = 1 := by have := hi.bank; omega
  obtain ⟨n, rfl⟩ := Int.eq_ofNat_of_zero_le h0
  by_cases h1 : n < 128
  · exact Rread_mem hr n h1
  by_cases h2 : n < 192
  · rcases hb2 with hb2 | hb2
    · exact Rread_bank0 hr _ (n - 128) (by omega) (by omega) hb2
    · exact Rread_bank1 hr _ (n - 128) (by omega) (by omega) hb2
  by_cases h3 : 203 < n
  · exact Rread_none _ (by omega)
  have h4 : n = 192 ∨ n = 193 ∨ n = 194 ∨ n = 195 ∨ n = 196 ∨ n = 197 ∨ n = 198 ∨ n = 199 ∨ n = 200 ∨ n = 201 ∨ n = 202 ∨ n = 203 := by omega
  rcases h4 with rfl | rfl | rfl | rfl | rfl | rfl | rfl | rfl | rfl | rfl | rfl | rfl
  · exact Rread_192 hr hi
  · exact Rread_193 hr hi
  · exact Rread_194 hr
  · exact Rread_195 hr hi
  · exact Rread_196 hr hi
  · exact Rread_197 hr
  · exact Rread_198 hr
  · exact Rread_199 hr
  · exact Rread_200 hr hi
  · rcases hb2 with hb2 | hb2
    · exact Rread_other0 hr hi hb2
    · exact Rread_other1 hr hi hb2
  · exact Rread_202 hr hi
  · exact Rread_203 hr hb hi.bank.2

end Go.Proofs.YtommhbidkoeifaaGreat
