/- The document's board: the watch's keys, the updater. -/
import Derived.Test.YtommhbidkoeifaaGreatRef2
namespace Go.Proofs.YtommhbidkoeifaaGreat
open Go.RowKit

theorem Rep.ext_b0 {L : Lay} {st : St} {w : World} (h : Rep L st w) (f : Nat → Int) (hf : ∀ i, i < 64 → f i = st.b0 i) : Rep L { st with b0 := f } w :=
  ⟨h.brd, fun i hi => by
    show w.cell? ⟨L.p, i, none⟩ = some (.int .u8 (f i)) ∧ _
    rw [hf i hi]
    exact h.r0 i hi, h.r1, h.gp, h.gq, h.pq⟩
theorem Rep.ext_b1 {L : Lay} {st : St} {w : World} (h : Rep L st w) (f : Nat → Int) (hf : ∀ i, i < 64 → f i = st.b1 i) : Rep L { st with b1 := f } w :=
  ⟨h.brd, h.r0, fun i hi => by
    show w.cell? ⟨L.q, i, none⟩ = some (.int .u8 (f i)) ∧ _
    rw [hf i hi]
    exact h.r1 i hi, h.gp, h.gq, h.pq⟩

theorem Kept.p {L : Lay} {a w : World} (h : Kept L.own a w) (j : Nat) (u : Value) : Kept L.own a (w.setCell ⟨L.p, j, none⟩ u) := h.setCell (Or.inl (own_p L)) u
theorem Kept.q {L : Lay} {a w : World} (h : Kept L.own a w) (j : Nat) (u : Value) : Kept L.own a (w.setCell ⟨L.q, j, none⟩ u) := h.setCell (Or.inl (own_q L)) u

set_option maxHeartbeats 400000 in
theorem Rkeys_not {L : Lay} {st : St} {w : World} (hr : Rep L st w) (v : Int) (h : (v == 105) = false) :
    Calls Tryz.prog 91 #[.pointer (some ⟨L.g, 0, none⟩), .int .u8 v] w fun e w' => e = .returned (.tuple #[]) ∧ Rep L (st.keys v) w' ∧ Kept L.own w w' := by
  have HF : Hid (st.keys v = { st with key := (v == 150) }) := by
    have h' : ¬ v = 105 := by simpa using h
    simp [Hid, St.keys, h']
  have c1 := hr.c_key
  have f1 := hr.f_key
  go_enter Tryz.func91, Tryz.ntmps91
  go_wp2
  (first | go_end0 | refine bodyPost_ret (results_none rfl _ _ _) rfl ?_)
  exact ⟨rfl, (hr.set_key _).as HF.out.symm, (Kept.refl _ _).rg _ _⟩

set_option maxHeartbeats 400000 in
theorem Rkeys_unset {L : Lay} {st : St} {w : World} (hr : Rep L st w) (h : st.key = false) :
    Calls Tryz.prog 91 #[.pointer (some ⟨L.g, 0, none⟩), .int .u8 105] w fun e w' => e = .returned (.tuple #[]) ∧ Rep L (st.keys 105) w' ∧ Kept L.own w w' := by
  have HF : Hid (st.keys 105 = { st with key := false }) := by
    simp [Hid, St.keys, h]
  have c1 := hr.c_key
  rw [h] at c1
  have f1 := hr.f_key
  go_enter Tryz.func91, Tryz.ntmps91
  go_wp2
  (first | go_end0 | refine bodyPost_ret (results_none rfl _ _ _) rfl ?_)
  exact ⟨rfl, (hr.set_key _).as HF.out.symm, (Kept.refl _ _).rg _ _⟩

set_option maxHeartbeats 400000 in
theorem Rkeys_early {L : Lay} {st : St} {w : World} (hr : Rep L st w) (h : st.key = true) (ha : st.age < st.window) (hb : st.bank = 0 ∨ st.bank = 1) :
    Calls Tryz.prog 91 #[.pointer (some ⟨L.g, 0, none⟩), .int .u8 105] w fun e w' => e = .returned (.tuple #[]) ∧ Rep L (st.keys 105) w' ∧ Kept L.own w w' := by
  have HF : Hid (st.keys 105 = ({ st with key := false }).reset 3) := by
    simp [Hid, St.keys, h, ha]
  have c1 := hr.c_key
  rw [h] at c1
  have f1 := hr.f_key
  have c2 := hr.c_age
  have c3 := hr.c_window
  go_enter Tryz.func91, Tryz.ntmps91
  go_wp2
  go_quiet (fail)
  go_wp2_with fail
  refine (Rreset_any (st := { st with key := false }) ?hrep 3 (Or.inr hb)).mono ?_
  case hrep => exact (hr.set_key false).drewN _
  rintro e w1 ⟨rfl, hr1, hk1⟩
  have k1 : Kept L.own w w1 := (((Kept.refl _ w).rg _ _).drewN _).trans hk1
  go_wp2
  (first | go_end0 | refine bodyPost_ret (results_none rfl _ _ _) rfl ?_)
  exact ⟨rfl, hr1.as HF.out.symm, k1⟩

set_option maxHeartbeats 400000 in
theorem Rkeys_feed {L : Lay} {st : St} {w : World} (hr : Rep L st w) (h : st.key = true) (ha : ¬ st.age < st.window) :
    Calls Tryz.prog 91 #[.pointer (some ⟨L.g, 0, none⟩), .int .u8 105] w fun e w' => e = .returned (.tuple #[]) ∧ Rep L (st.keys 105) w' ∧ Kept L.own w w' := by
  have HF : Hid (st.keys 105 = { st with key := false, age := 0 }) := by
    simp [Hid, St.keys, h, ha]
  have c1 := hr.c_key
  rw [h] at c1
  have f1 := hr.f_key
  have c2 := hr.c_age
  have f2 := hr.f_age
  have c3 := hr.c_window
  go_enter Tryz.func91, Tryz.ntmps91
  go_wp2
  go_quiet (fail)
  go_wp2
  (first | go_end0 | refine bodyPost_ret (results_none rfl _ _ _) rfl ?_)
  exact ⟨rfl, (((hr.set_key _).set_age _).drewN _).as HF.out.symm, (((Kept.refl _ _).rg _ _).rg _ _).drewN _⟩

theorem Rkeys_any {L : Lay} {st : St} {w : World} (hr : Rep L st w) (hb : st.bank = 0 ∨ st.bank = 1) (v : Int) :
    Calls Tryz.prog 91 #[.pointer (some ⟨L.g, 0, none⟩), .int .u8 v] w fun e w' => e = .returned (.tuple #[]) ∧ Rep L (st.keys v) w' ∧ Kept L.own w w' := by
  by_cases hv : v = 105
  · subst hv
    cases h : st.key
    · exact Rkeys_unset hr h
    · by_cases ha : st.age < st.window
      · exact Rkeys_early hr h ha hb
      · exact Rkeys_feed hr h ha
  · exact Rkeys_not hr v (by simpa using hv)

set_option maxRecDepth 100000 in
set_option maxHeartbeats 400000 in
theorem Rupd_close0 {L : Lay} {st : St} {w : World} (hr : Rep L st w) (v : Int) (hv : (v == 229) = false) (hb : st.bank = 0) :
    Calls Tryz.prog 92 #[.pointer (some ⟨L.g, 0, none⟩), .int .i64 199, .int .u8 v] w fun e w' => e = .returned (.tuple #[]) ∧ Rep L (st.updates 199 v) w' ∧ Kept L.own w w' := by
  have HF : Hid (st.updates 199 v = { st with opn := false }) := by
    have hv' : ¬ v = 229 := by simpa using hv
    simp [Hid, St.updates, hv']
  have cb := hr.c_bank
  rw [hb] at cb
  have cr := hr.c_q
  have c1 := hr.c_opn
  have f1 := hr.f_opn
  clear hb
  go_enter Tryz.func92, Tryz.ntmps92
  go_wp2
  go_quiet (fail)
  go_wp2
  (first | go_end0 | refine bodyPost_ret (results_none rfl _ _ _) rfl ?_)
  exact ⟨rfl, ((hr.set_opn _).drewN _).as HF.out.symm, ((Kept.refl _ _).rg _ _).drewN _⟩

set_option maxRecDepth 100000 in
set_option maxHeartbeats 400000 in
theorem Rupd_place0 {L : Lay} {st : St} {w : World} (hr : Rep L st w) (v : Int) (h0 : 0 ≤ v) (h1 : v ≤ 255) (hb : st.bank = 0) :
    Calls Tryz.prog 92 #[.pointer (some ⟨L.g, 0, none⟩), .int .i64 200, .int .u8 v] w fun e w' => e = .returned (.tuple #[]) ∧ Rep L (st.updates 200 v) w' ∧ Kept L.own w w' := by
  have HF : Hid (st.updates 200 v = { st with place := v % 64 }) := by
    simp [Hid, St.updates]
  have cb := hr.c_bank
  rw [hb] at cb
  have cr := hr.c_q
  have c1 := hr.c_place
  have f1 := hr.f_place
  clear hb
  go_enter Tryz.func92, Tryz.ntmps92
  go_wp2
  go_quiet (fail)
  go_wp2
  (first | go_end0 | refine bodyPost_ret (results_none rfl _ _ _) rfl ?_)
  exact ⟨rfl, ((hr.set_place _).drewN _).as HF.out.symm, ((Kept.refl _ _).rg _ _).drewN _⟩

set_option maxRecDepth 100000 in
set_option maxHeartbeats 400000 in
theorem Rupd_shut0 {L : Lay} {st : St} {w : World} (hr : Rep L st w) (v : Int) (hop : st.opn = false) (hb : st.bank = 0) :
    Calls Tryz.prog 92 #[.pointer (some ⟨L.g, 0, none⟩), .int .i64 201, .int .u8 v] w fun e w' => e = .returned (.tuple #[]) ∧ Rep L (st.updates 201 v) w' ∧ Kept L.own w w' := by
  have HF : Hid (st.updates 201 v = st) := by
    simp [Hid, St.updates, hop]
  have cb := hr.c_bank
  rw [hb] at cb
  have cr := hr.c_q
  have c1 := hr.c_opn
  rw [hop] at c1
  clear hb hop
  go_enter Tryz.func92, Tryz.ntmps92
  go_wp2
  go_quiet (fail)
  go_wp2
  (first | go_end0 | refine bodyPost_ret (results_none rfl _ _ _) rfl ?_)
  exact ⟨rfl, (hr.drewN _).as HF.out.symm, (Kept.refl _ _).drewN _⟩

set_option maxRecDepth 100000 in
set_option maxHeartbeats 400000 in
theorem Rupd_byte0 {L : Lay} {st : St} {w : World} (hr : Rep L st w) (v : Int) (hi : Inv st) (hop : st.opn = true) (hb : st.bank = 0) :
    Calls Tryz.prog 92 #[.pointer (some ⟨L.g, 0, none⟩), .int .i64 201, .int .u8 v] w fun e w' => e = .returned (.tuple #[]) ∧ Rep L (st.updates 201 v) w' ∧ Kept L.own w w' := by
  have HF : Hid (st.updates 201 v = { st with b1 := upd st.b1 st.place.toNat v, place := (st.place + 1) % 64 }) := by
    have e : st.inBank (1 - st.bank) = st.b1 := by funext i; simp [St.inBank, hb]
    simp only [Hid, St.updates, hop, if_true, e]
    simp [St.setBank, hb, hop]
  have cb := hr.c_bank
  rw [hb] at cb
  have cr := hr.c_q
  have c1 := hr.c_opn
  rw [hop] at c1
  have c2 := hr.c_place
  have f2 := hr.f_place
  have hpl := hi.place
  have c3 := (hr.r1 st.place.toNat (by omega)).1
  have f3 := (hr.r1 st.place.toNat (by omega)).2
  have hk4 : st.place < 64 := by omega
  have hk5 : 0 ≤ st.place := hpl.1
  have hne := hr.gq
  clear hb hop hpl
  go_enter Tryz.func92, Tryz.ntmps92
  go_wp2
  go_quiet (fail)
  go_wp2
  (first | go_end0 | refine bodyPost_ret (results_none rfl _ _ _) rfl ?_)
  exact ⟨rfl, (((hr.set_b1 st.place.toNat (by omega) _).set_place _).drewN _).as HF.out.symm, (((Kept.refl _ _).q _ _).rg _ _).drewN _⟩

set_option maxRecDepth 100000 in
set_option maxHeartbeats 400000 in
theorem Rupd_clear0 {L : Lay} {st : St} {w : World} (hr : Rep L st w) (hb : st.bank = 0) :
    Calls Tryz.prog 92 #[.pointer (some ⟨L.g, 0, none⟩), .int .i64 203, .int .u8 13] w fun e w' => e = .returned (.tuple #[]) ∧ Rep L (st.updates 203 13) w' ∧ Kept L.own w w' := by
  have HF : Hid (st.updates 203 13 = { st with s0 := 0 }) := by
    simp [Hid, St.updates, hb, St.setStrikes]
  have cb := hr.c_bank
  rw [hb] at cb
  have cr := hr.c_q
  have c1 := hr.c_s0
  have f1 := hr.f_s0
  clear hb
  go_enter Tryz.func92, Tryz.ntmps92
  go_wp2
  go_quiet (fail)
  go_wp2
  go_region
  (first | go_end0 | refine bodyPost_ret (results_none rfl _ _ _) rfl ?_)
  exact ⟨rfl, (((hr.set_s0 _).drewN _).drew).as HF.out.symm, (((Kept.refl _ _).rg _ _).drewN _).drew⟩

set_option maxRecDepth 100000 in
set_option maxHeartbeats 400000 in
theorem Rupd_stay0 {L : Lay} {st : St} {w : World} (hr : Rep L st w) (v : Int) (hv : (v == 13) = false) (hb : st.bank = 0) :
    Calls Tryz.prog 92 #[.pointer (some ⟨L.g, 0, none⟩), .int .i64 203, .int .u8 v] w fun e w' => e = .returned (.tuple #[]) ∧ Rep L (st.updates 203 v) w' ∧ Kept L.own w w' := by
  have HF : Hid (st.updates 203 v = st) := by
    have hv' : ¬ v = 13 := by simpa using hv
    simp [Hid, St.updates, hv']
  have cb := hr.c_bank
  rw [hb] at cb
  have cr := hr.c_q
  clear hb
  go_enter Tryz.func92, Tryz.ntmps92
  go_wp2
  go_quiet (fail)
  go_wp2
  (first | go_end0 | refine bodyPost_ret (results_none rfl _ _ _) rfl ?_)
  exact ⟨rfl, (hr.drewN _).as HF.out.symm, (Kept.refl _ _).drewN _⟩

set_option maxRecDepth 100000 in
set_option maxHeartbeats 400000 in
theorem Rupd_none0 {L : Lay} {st : St} {w : World} (hr : Rep L st w) (v : Int) (a : Int) (h1 : (a == 199) = false) (h2 : (a == 200) = false) (h3 : (a == 201) = false) (h4 : (a == 203) = false) (hb : st.bank = 0) :
    Calls Tryz.prog 92 #[.pointer (some ⟨L.g, 0, none⟩), .int .i64 a, .int .u8 v] w fun e w' => e = .returned (.tuple #[]) ∧ Rep L (st.updates a v) w' ∧ Kept L.own w w' := by
  have HF : Hid (st.updates a v = st) := by
    have h1' : ¬ a = 199 := by simpa using h1
    have h2' : ¬ a = 200 := by simpa using h2
    have h3' : ¬ a = 201 := by simpa using h3
    have h4' : ¬ a = 203 := by simpa using h4
    simp [Hid, St.updates, h1', h2', h3', h4']
  have cb := hr.c_bank
  rw [hb] at cb
  have cr := hr.c_q
  clear hb
  go_enter Tryz.func92, Tryz.ntmps92
  go_wp2
  go_quiet (fail)
  go_wp2
  (first | go_end0 | refine bodyPost_ret (results_none rfl _ _ _) rfl ?_)
  exact ⟨rfl, (hr.drewN _).as HF.out.symm, (Kept.refl _ _).drewN _⟩

set_option maxRecDepth 100000 in
set_option maxHeartbeats 400000 in
theorem Rupd_close1 {L : Lay} {st : St} {w : World} (hr : Rep L st w) (v : Int) (hv : (v == 229) = false) (hb : st.bank = 1) :
    Calls Tryz.prog 92 #[.pointer (some ⟨L.g, 0, none⟩), .int .i64 199, .int .u8 v] w fun e w' => e = .returned (.tuple #[]) ∧ Rep L (st.updates 199 v) w' ∧ Kept L.own w w' := by
  have HF : Hid (st.updates 199 v = { st with opn := false }) := by
    have hv' : ¬ v = 229 := by simpa using hv
    simp [Hid, St.updates, hv']
  have cb := hr.c_bank
  rw [hb] at cb
  have cr := hr.c_p
  have c1 := hr.c_opn
  have f1 := hr.f_opn
  clear hb
  go_enter Tryz.func92, Tryz.ntmps92
  go_wp2
  go_quiet (fail)
  go_wp2
  (first | go_end0 | refine bodyPost_ret (results_none rfl _ _ _) rfl ?_)
  exact ⟨rfl, ((hr.set_opn _).drewN _).as HF.out.symm, ((Kept.refl _ _).rg _ _).drewN _⟩

set_option maxRecDepth 100000 in
set_option maxHeartbeats 400000 in
theorem Rupd_place1 {L : Lay} {st : St} {w : World} (hr : Rep L st w) (v : Int) (h0 : 0 ≤ v) (h1 : v ≤ 255) (hb : st.bank = 1) :
    Calls Tryz.prog 92 #[.pointer (some ⟨L.g, 0, none⟩), .int .i64 200, .int .u8 v] w fun e w' => e = .returned (.tuple #[]) ∧ Rep L (st.updates 200 v) w' ∧ Kept L.own w w' := by
  have HF : Hid (st.updates 200 v = { st with place := v % 64 }) := by
    simp [Hid, St.updates]
  have cb := hr.c_bank
  rw [hb] at cb
  have cr := hr.c_p
  have c1 := hr.c_place
  have f1 := hr.f_place
  clear hb
  go_enter Tryz.func92, Tryz.ntmps92
  go_wp2
  go_quiet (fail)
  go_wp2
  (first | go_end0 | refine bodyPost_ret (results_none rfl _ _ _) rfl ?_)
  exact ⟨rfl, ((hr.set_place _).drewN _).as HF.out.symm, ((Kept.refl _ _).rg _ _).drewN _⟩

set_option maxRecDepth 100000 in
set_option maxHeartbeats 400000 in
theorem Rupd_shut1 {L : Lay} {st : St} {w : World} (hr : Rep L st w) (v : Int) (hop : st.opn = false) (hb : st.bank = 1) :
    Calls Tryz.prog 92 #[.pointer (some ⟨L.g, 0, none⟩), .int .i64 201, .int .u8 v] w fun e w' => e = .returned (.tuple #[]) ∧ Rep L (st.updates 201 v) w' ∧ Kept L.own w w' := by
  have HF : Hid (st.updates 201 v = st) := by
    simp [Hid, St.updates, hop]
  have cb := hr.c_bank
  rw [hb] at cb
  have cr := hr.c_p
  have c1 := hr.c_opn
  rw [hop] at c1
  clear hb hop
  go_enter Tryz.func92, Tryz.ntmps92
  go_wp2
  go_quiet (fail)
  go_wp2
  (first | go_end0 | refine bodyPost_ret (results_none rfl _ _ _) rfl ?_)
  exact ⟨rfl, (hr.drewN _).as HF.out.symm, (Kept.refl _ _).drewN _⟩

set_option maxRecDepth 100000 in
set_option maxHeartbeats 400000 in
theorem Rupd_byte1 {L : Lay} {st : St} {w : World} (hr : Rep L st w) (v : Int) (hi : Inv st) (hop : st.opn = true) (hb : st.bank = 1) :
    Calls Tryz.prog 92 #[.pointer (some ⟨L.g, 0, none⟩), .int .i64 201, .int .u8 v] w fun e w' => e = .returned (.tuple #[]) ∧ Rep L (st.updates 201 v) w' ∧ Kept L.own w w' := by
  have HF : Hid (st.updates 201 v = { st with b0 := upd st.b0 st.place.toNat v, place := (st.place + 1) % 64 }) := by
    have e : st.inBank (1 - st.bank) = st.b0 := by funext i; simp [St.inBank, hb]
    simp only [Hid, St.updates, hop, if_true, e]
    simp [St.setBank, hb, hop]
  have cb := hr.c_bank
  rw [hb] at cb
  have cr := hr.c_p
  have c1 := hr.c_opn
  rw [hop] at c1
  have c2 := hr.c_place
  have f2 := hr.f_place
  have hpl := hi.place
  have c3 := (hr.r0 st.place.toNat (by omega)).1
  have f3 := (hr.r0 st.place.toNat (by omega)).2
  have hk4 : st.place < 64 := by omega
  have hk5 : 0 ≤ st.place := hpl.1
  have hne := hr.gp
  clear hb hop hpl
  go_enter Tryz.func92, Tryz.ntmps92
  go_wp2
  go_quiet (fail)
  go_wp2
  (first | go_end0 | refine bodyPost_ret (results_none rfl _ _ _) rfl ?_)
  exact ⟨rfl, (((hr.set_b0 st.place.toNat (by omega) _).set_place _).drewN _).as HF.out.symm, (((Kept.refl _ _).p _ _).rg _ _).drewN _⟩

set_option maxRecDepth 100000 in
set_option maxHeartbeats 400000 in
theorem Rupd_clear1 {L : Lay} {st : St} {w : World} (hr : Rep L st w) (hb : st.bank = 1) :
    Calls Tryz.prog 92 #[.pointer (some ⟨L.g, 0, none⟩), .int .i64 203, .int .u8 13] w fun e w' => e = .returned (.tuple #[]) ∧ Rep L (st.updates 203 13) w' ∧ Kept L.own w w' := by
  have HF : Hid (st.updates 203 13 = { st with s1 := 0 }) := by
    simp [Hid, St.updates, hb, St.setStrikes]
  have cb := hr.c_bank
  rw [hb] at cb
  have cr := hr.c_p
  have c1 := hr.c_s1
  have f1 := hr.f_s1
  clear hb
  go_enter Tryz.func92, Tryz.ntmps92
  go_wp2
  go_quiet (fail)
  go_wp2
  go_region
  (first | go_end0 | refine bodyPost_ret (results_none rfl _ _ _) rfl ?_)
  exact ⟨rfl, (((hr.set_s1 _).drewN _).drew).as HF.out.symm, (((Kept.refl _ _).rg _ _).drewN _).drew⟩

set_option maxRecDepth 100000 in
set_option maxHeartbeats 400000 in
theorem Rupd_stay1 {L : Lay} {st : St} {w : World} (hr : Rep L st w) (v : Int) (hv : (v == 13) = false) (hb : st.bank = 1) :
    Calls Tryz.prog 92 #[.pointer (some ⟨L.g, 0, none⟩), .int .i64 203, .int .u8 v] w fun e w' => e = .returned (.tuple #[]) ∧ Rep L (st.updates 203 v) w' ∧ Kept L.own w w' := by
  have HF : Hid (st.updates 203 v = st) := by
    have hv' : ¬ v = 13 := by simpa using hv
    simp [Hid, St.updates, hv']
  have cb := hr.c_bank
  rw [hb] at cb
  have cr := hr.c_p
  clear hb
  go_enter Tryz.func92, Tryz.ntmps92
  go_wp2
  go_quiet (fail)
  go_wp2
  (first | go_end0 | refine bodyPost_ret (results_none rfl _ _ _) rfl ?_)
  exact ⟨rfl, (hr.drewN _).as HF.out.symm, (Kept.refl _ _).drewN _⟩

set_option maxRecDepth 100000 in
set_option maxHeartbeats 400000 in
theorem Rupd_none1 {L : Lay} {st : St} {w : World} (hr : Rep L st w) (v : Int) (a : Int) (h1 : (a == 199) = false) (h2 : (a == 200) = false) (h3 : (a == 201) = false) (h4 : (a == 203) = false) (hb : st.bank = 1) :
    Calls Tryz.prog 92 #[.pointer (some ⟨L.g, 0, none⟩), .int .i64 a, .int .u8 v] w fun e w' => e = .returned (.tuple #[]) ∧ Rep L (st.updates a v) w' ∧ Kept L.own w w' := by
  have HF : Hid (st.updates a v = st) := by
    have h1' : ¬ a = 199 := by simpa using h1
    have h2' : ¬ a = 200 := by simpa using h2
    have h3' : ¬ a = 201 := by simpa using h3
    have h4' : ¬ a = 203 := by simpa using h4
    simp [Hid, St.updates, h1', h2', h3', h4']
  have cb := hr.c_bank
  rw [hb] at cb
  have cr := hr.c_p
  clear hb
  go_enter Tryz.func92, Tryz.ntmps92
  go_wp2
  go_quiet (fail)
  go_wp2
  (first | go_end0 | refine bodyPost_ret (results_none rfl _ _ _) rfl ?_)
  exact ⟨rfl, (hr.drewN _).as HF.out.symm, (Kept.refl _ _).drewN _⟩

set_option maxRecDepth 100000 in
set_option maxHeartbeats 400000 in
theorem Rupd_open0 {L : Lay} {st : St} {w : World} (hr : Rep L st w) (hb : st.bank = 0) :
    Calls Tryz.prog 92 #[.pointer (some ⟨L.g, 0, none⟩), .int .i64 199, .int .u8 229] w fun e w' => e = .returned (.tuple #[]) ∧ Rep L (st.updates 199 229) w' ∧ Kept L.own w w' := by
  have HF : Hid (st.updates 199 229 = { st with opn := true, b1 := fun _ => 255, place := 0 }) := by
    simp [Hid, St.updates, hb, St.setBank]
  have cb := hr.c_bank
  rw [hb] at cb
  have cr := hr.c_q
  have c1 := hr.c_opn
  have f1 := hr.f_opn
  clear hb
  go_enter Tryz.func92, Tryz.ntmps92
  go_wp2
  go_quiet (fail)
  go_wp2
  have hr1 := (hr.set_opn true).drewN nq
  have k1 := ((Kept.refl L.own w).rg 153 (.bool true)).drewN nq
  go_loopw [7] (fun i wx => ∃ j : Nat, j ≤ 64 ∧ i = .int .i64 j ∧ Rep L { st with opn := true, b1 := fun i => if i < j then 255 else st.b1 i } wx ∧ Kept L.own w wx) (fun i _ => 64 - (intOf i).toNat)
  case atStart => exact ⟨0, by omega, rfl, hr1.as (by simp), k1⟩
  case round =>
    obtain ⟨j, hj, rfl, hx, kx⟩ := hrel
    clear hr1 k1 hr cb cr c1 f1
    by_cases hlt : j < 64
    · have hlt' : (j : Int) < 64 := by omega
      have c3 := (hx.r1 j hlt).1
      have f3 := (hx.r1 j hlt).2
      go_wp2
      exact ⟨⟨j + 1, by omega, by go_num, (hx.set_b1 j hlt 255).as (by
        simp only [St.mk.injEq, true_and, and_true]
        funext i
        simp only [upd]
        by_cases e : i = j
        · subst e; simp
        · rw [if_neg e]
          by_cases e2 : i < j
          · rw [if_pos e2, if_pos (by omega)]
          · rw [if_neg e2, if_neg (by omega)]), kx.q _ _⟩, by simp [intOf]; omega⟩
    · obtain rfl : j = 64 := by omega
      have c4 := hx.c_place
      have f4 := hx.f_place
      go_wp2
      (first | go_end0 | refine bodyPost_ret (results_none rfl _ _ _) rfl ?_)
      exact ⟨rfl, ((hx.ext_b1 (fun _ => 255) (fun i hi => by simp [hi])).set_place 0).as HF.out.symm, kx.rg _ _⟩

set_option maxRecDepth 100000 in
set_option maxHeartbeats 400000 in
theorem Rupd_open1 {L : Lay} {st : St} {w : World} (hr : Rep L st w) (hb : st.bank = 1) :
    Calls Tryz.prog 92 #[.pointer (some ⟨L.g, 0, none⟩), .int .i64 199, .int .u8 229] w fun e w' => e = .returned (.tuple #[]) ∧ Rep L (st.updates 199 229) w' ∧ Kept L.own w w' := by
  have HF : Hid (st.updates 199 229 = { st with opn := true, b0 := fun _ => 255, place := 0 }) := by
    simp [Hid, St.updates, hb, St.setBank]
  have cb := hr.c_bank
  rw [hb] at cb
  have cr := hr.c_p
  have c1 := hr.c_opn
  have f1 := hr.f_opn
  clear hb
  go_enter Tryz.func92, Tryz.ntmps92
  go_wp2
  go_quiet (fail)
  go_wp2
  have hr1 := (hr.set_opn true).drewN nq
  have k1 := ((Kept.refl L.own w).rg 153 (.bool true)).drewN nq
  go_loopw [7] (fun i wx => ∃ j : Nat, j ≤ 64 ∧ i = .int .i64 j ∧ Rep L { st with opn := true, b0 := fun i => if i < j then 255 else st.b0 i } wx ∧ Kept L.own w wx) (fun i _ => 64 - (intOf i).toNat)
  case atStart => exact ⟨0, by omega, rfl, hr1.as (by simp), k1⟩
  case round =>
    obtain ⟨j, hj, rfl, hx, kx⟩ := hrel
    clear hr1 k1 hr cb cr c1 f1
    by_cases hlt : j < 64
    · have hlt' : (j : Int) < 64 := by omega
      have c3 := (hx.r0 j hlt).1
      have f3 := (hx.r0 j hlt).2
      go_wp2
      exact ⟨⟨j + 1, by omega, by go_num, (hx.set_b0 j hlt 255).as (by
        simp only [St.mk.injEq, true_and, and_true]
        funext i
        simp only [upd]
        by_cases e : i = j
        · subst e; simp
        · rw [if_neg e]
          by_cases e2 : i < j
          · rw [if_pos e2, if_pos (by omega)]
          · rw [if_neg e2, if_neg (by omega)]), kx.p _ _⟩, by simp [intOf]; omega⟩
    · obtain rfl : j = 64 := by omega
      have c4 := hx.c_place
      have f4 := hx.f_place
      go_wp2
      (first | go_end0 | refine bodyPost_ret (results_none rfl _ _ _) rfl ?_)
      exact ⟨rfl, ((hx.ext_b0 (fun _ => 255) (fun i hi => by simp [hi])).set_place 0).as HF.out.symm, kx.rg _ _⟩

theorem Rupdates_any {L : Lay} {st : St} {w : World} (hr : Rep L st w) (hi : Inv st) (hb : st.bank = 0 ∨ st.bank = 1) (a v : Int) (h0 : 0 ≤ v) (h1 : v ≤ 255) :
    Calls Tryz.prog 92 #[.pointer (some ⟨L.g, 0, none⟩), .int .i64 a, .int .u8 v] w fun e w' => e = .returned (.tuple #[]) ∧ Rep L (st.updates a v) w' ∧ Kept L.own w w' := by
  by_cases e1 : a = 199
  · subst e1
    by_cases ev : v = 229
    · subst ev
      rcases hb with hb | hb
      · exact Rupd_open0 hr hb
      · exact Rupd_open1 hr hb
    · rcases hb with hb | hb
      · exact Rupd_close0 hr v (by simpa using ev) hb
      · exact Rupd_close1 hr v (by simpa using ev) hb
  by_cases e2 : a = 200
  · subst e2
    rcases hb with hb | hb
    · exact Rupd_place0 hr v h0 h1 hb
    · exact Rupd_place1 hr v h0 h1 hb
  by_cases e3 : a = 201
  · subst e3
    cases hop : st.opn
    · rcases hb with hb | hb
      · exact Rupd_shut0 hr v hop hb
      · exact Rupd_shut1 hr v hop hb
    · rcases hb with hb | hb
      · exact Rupd_byte0 hr v hi hop hb
      · exact Rupd_byte1 hr v hi hop hb
  by_cases e4 : a = 203
  · subst e4
    by_cases ev : v = 13
    · subst ev
      rcases hb with hb | hb
      · exact Rupd_clear0 hr hb
      · exact Rupd_clear1 hr hb
    · rcases hb with hb | hb
      · exact Rupd_stay0 hr v (by simpa using ev) hb
      · exact Rupd_stay1 hr v (by simpa using ev) hb
  · rcases hb with hb | hb
    · exact Rupd_none0 hr v a (by simpa using e1) (by simpa using e2) (by simpa using e3) (by simpa using e4) hb
    · exact Rupd_none1 hr v a (by simpa using e1) (by simpa using e2) (by simpa using e3) (by simpa using e4) hb


end Go.Proofs.YtommhbidkoeifaaGreat
