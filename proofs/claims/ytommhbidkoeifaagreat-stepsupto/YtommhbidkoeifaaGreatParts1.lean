/- The parts on the bus: what is read of them. -/
import Derived.Test.YtommhbidkoeifaaGreatXRep
import Derived.Deep.RegionHeld3
namespace Go.Proofs.YtommhbidkoeifaaGreat
open Go.RowKit
set_option linter.unusedVariables false

set_option maxHeartbeats 400000 in
theorem kprogram_0 {l : XL} {st : St} {ex : Ext} {w : World} (hr : XRep l st ex w) (hb : st.bank = 0) :
    Calls Tryz.prog 139 #[.pointer (some ⟨l.bk, 0, none⟩)] w fun e w' => e = .returned (.pointer (some ⟨l.bk, 0, none⟩)) ∧ ∃ n, w' = w.drewN n := by
  have c1 := hr.c_bank
  rw [hb] at c1
  clear hb
  go_enter Tryz.func139, Tryz.ntmps139
  go_wp2
  go_quiet (fail)
  go_wp2
  go_ret
  exact ⟨rfl, _, rfl⟩

set_option maxHeartbeats 400000 in
theorem kprogram_1 {l : XL} {st : St} {ex : Ext} {w : World} (hr : XRep l st ex w) (hb : st.bank = 1) :
    Calls Tryz.prog 139 #[.pointer (some ⟨l.bk, 0, none⟩)] w fun e w' => e = .returned (.pointer (some ⟨l.bk, 64, none⟩)) ∧ ∃ n, w' = w.drewN n := by
  have c1 := hr.c_bank
  rw [hb] at c1
  clear hb
  go_enter Tryz.func139, Tryz.ntmps139
  go_wp2
  go_quiet (fail)
  go_wp2
  go_ret
  exact ⟨rfl, _, rfl⟩

set_option maxHeartbeats 400000 in
theorem kspare_0 {l : XL} {st : St} {ex : Ext} {w : World} (hr : XRep l st ex w) (hb : st.bank = 0) :
    Calls Tryz.prog 154 #[.pointer (some ⟨l.bk, 0, none⟩)] w fun e w' => e = .returned (.pointer (some ⟨l.bk, 64, none⟩)) ∧ ∃ n, w' = w.drewN n := by
  have c1 := hr.c_bank
  rw [hb] at c1
  clear hb
  go_enter Tryz.func154, Tryz.ntmps154
  go_wp2
  go_quiet (fail)
  go_wp2
  go_ret
  exact ⟨rfl, _, rfl⟩

set_option maxHeartbeats 400000 in
theorem kspare_1 {l : XL} {st : St} {ex : Ext} {w : World} (hr : XRep l st ex w) (hb : st.bank = 1) :
    Calls Tryz.prog 154 #[.pointer (some ⟨l.bk, 0, none⟩)] w fun e w' => e = .returned (.pointer (some ⟨l.bk, 0, none⟩)) ∧ ∃ n, w' = w.drewN n := by
  have c1 := hr.c_bank
  rw [hb] at c1
  clear hb
  go_enter Tryz.func154, Tryz.ntmps154
  go_wp2
  go_quiet (fail)
  go_wp2
  go_ret
  exact ⟨rfl, _, rfl⟩

/-- Nothing was written. -/
def Still (w w' : World) : Prop := Kept (fun _ => False) w w'

set_option maxHeartbeats 400000 in
theorem mread_any {l : XL} {st : St} {ex : Ext} {w : World} (hr : XRep l st ex w) (k : Nat) (hk : k < 128) :
    Calls Tryz.prog 135 #[.pointer (some ⟨l.me, 0, none⟩), .int .u8 k] w fun e w' => e = .returned (.int .u8 (st.mem k)) ∧ Still w w' := by
  have c1 := hr.c_mem k hk
  have hk' : (k : Int) < 128 := by omega
  go_enter Tryz.func135, Tryz.ntmps135
  go_wp2
  go_ret
  exact ⟨rfl, Kept.refl _ _⟩

set_option maxHeartbeats 400000 in
theorem gread_0 {l : XL} {st : St} {ex : Ext} {w : World} (hr : XRep l st ex w) (hb : st.bank = 0) (k : Nat) (hk : k < 64) :
    Calls Tryz.prog 137 #[.agg #[.pointer (some ⟨l.bk, 0, none⟩)], .int .u8 k] w fun e w' => e = .returned (.int .u8 (st.b0 k)) ∧ Still w w' := by
  have c1 := hr.c_b0 k hk
  have hk' : (k : Int) < 64 := by omega
  have hlt := hr.bk_q
  go_enter Tryz.func137, Tryz.ntmps137
  go_wp2_with fail
  refine (kprogram_0 (hr.alloc _) hb).mono ?_
  rintro e w1 ⟨rfl, n, rfl⟩
  go_wp2
  go_ret
  exact ⟨rfl, ((Kept.refl _ _).alloc _).drewN _⟩

set_option maxHeartbeats 400000 in
theorem gread_1 {l : XL} {st : St} {ex : Ext} {w : World} (hr : XRep l st ex w) (hb : st.bank = 1) (k : Nat) (hk : k < 64) :
    Calls Tryz.prog 137 #[.agg #[.pointer (some ⟨l.bk, 0, none⟩)], .int .u8 k] w fun e w' => e = .returned (.int .u8 (st.b1 k)) ∧ Still w w' := by
  have c1 := hr.c_b1 k hk
  have hk' : (k : Int) < 64 := by omega
  have hlt := hr.bk_q
  go_enter Tryz.func137, Tryz.ntmps137
  go_wp2_with fail
  refine (kprogram_1 (hr.alloc _) hb).mono ?_
  rintro e w1 ⟨rfl, n, rfl⟩
  go_wp2
  go_ret
  exact ⟨rfl, ((Kept.refl _ _).alloc _).drewN _⟩

set_option maxHeartbeats 400000 in
theorem pread_0 {l : XL} {st : St} {ex : Ext} {w : World} (hr : XRep l st ex w) :
    Calls Tryz.prog 150 #[.pointer (some ⟨l.po, 0, none⟩), .int .u8 0] w fun e w' => e = .returned (.int .u8 st.out) ∧ Still w w' := by
  have c1 := hr.c_out
  go_enter Tryz.func150, Tryz.ntmps150
  go_wp2
  go_ret
  exact ⟨rfl, Kept.refl _ _⟩

set_option maxHeartbeats 400000 in
theorem pread_1 {l : XL} {st : St} {ex : Ext} {w : World} (hr : XRep l st ex w) :
    Calls Tryz.prog 150 #[.pointer (some ⟨l.po, 0, none⟩), .int .u8 1] w fun e w' => e = .returned (.int .u8 ex.inp) ∧ Still w w' := by
  have c1 := hr.c_inp
  go_enter Tryz.func150, Tryz.ntmps150
  go_wp2
  go_ret
  exact ⟨rfl, Kept.refl _ _⟩

set_option maxHeartbeats 400000 in
theorem cread_0 {l : XL} {st : St} {ex : Ext} {w : World} (hr : XRep l st ex w) (hi : Inv st) :
    Calls Tryz.prog 131 #[.pointer (some ⟨l.re, 0, none⟩), .int .u8 0] w fun e w' => e = .returned (.int .u8 st.cause) ∧ Still w w' := by
  have c1 := hr.c_cause
  obtain ⟨v0, v1⟩ := hi.cause
  have HF : Hid (st.cause % 256 = st.cause) := by unfold Hid; omega
  go_enter Tryz.func131, Tryz.ntmps131
  go_wp2
  go_ret
  exact ⟨ret_int (by first | exact HF.out | rfl), Kept.refl _ _⟩

set_option maxHeartbeats 400000 in
theorem cread_1 {l : XL} {st : St} {ex : Ext} {w : World} (hr : XRep l st ex w) (h0 : 0 ≤ st.bank) (h1 : st.bank ≤ 1) :
    Calls Tryz.prog 131 #[.pointer (some ⟨l.re, 0, none⟩), .int .u8 1] w fun e w' => e = .returned (.int .u8 st.bank) ∧ Still w w' := by
  have c1 := hr.c_rbk
  have c2 := hr.c_bank
  have HF : Hid (st.bank % 256 = st.bank) := by unfold Hid; omega
  go_enter Tryz.func131, Tryz.ntmps131
  go_wp2
  go_ret
  exact ⟨ret_int (by first | exact HF.out | rfl), Kept.refl _ _⟩

set_option maxHeartbeats 400000 in
theorem tcount_0 {l : XL} {st : St} {ex : Ext} {w : World} (hr : XRep l st ex w) (h0 : st.period = 0) :
    Calls Tryz.prog 56 #[.pointer (some ⟨l.tm, 0, none⟩)] w fun e w' => e = .returned (.int .u8 0) ∧ Still w w' := by
  have c1 := hr.c_period
  rw [h0] at c1
  clear h0
  go_enter Tryz.func56, Tryz.ntmps56
  go_wp2
  go_ret
  exact ⟨rfl, Kept.refl _ _⟩

set_option maxHeartbeats 400000 in
theorem tcount_1 {l : XL} {st : St} {ex : Ext} {w : World} (hr : XRep l st ex w) (h0 : (st.period == 0) = false) (n0 : 0 ≤ ex.now) (n1 : ex.now < 4611686018427387904) (hn : ex.next = ex.now + st.count) (v0 : 0 ≤ st.count) (v1 : st.count ≤ 255) :
    Calls Tryz.prog 56 #[.pointer (some ⟨l.tm, 0, none⟩)] w fun e w' => e = .returned (.int .u8 st.count) ∧ Still w w' := by
  have c1 := hr.c_period
  have c2 := hr.c_next
  have c3 := hr.c_tck
  have c4 := hr.c_now
  rw [hn] at c2
  clear hn
  go_enter Tryz.func56, Tryz.ntmps56
  go_wp2
  go_quiet (fail)
  go_wp2
  go_ret
  exact ⟨ret_int (by omega), (Kept.refl _ _).drewN _⟩

set_option maxHeartbeats 400000 in
theorem wage_any {l : XL} {st : St} {ex : Ext} {w : World} (hr : XRep l st ex w) (n0 : 0 ≤ ex.now) (n1 : ex.now < 4611686018427387904) (hn : ex.fed = ex.now - st.age) (v0 : 0 ≤ st.age) (v1 : st.age ≤ 251) :
    Calls Tryz.prog 55 #[.pointer (some ⟨l.wa, 0, none⟩)] w fun e w' => e = .returned (.int .i64 st.age) ∧ ∃ n, w' = w.drewN n := by
  have c2 := hr.c_fed
  have c3 := hr.c_wck
  have c4 := hr.c_now
  rw [hn] at c2
  have HF : Hid (ex.now - (ex.now - st.age) = st.age) := by unfold Hid; omega
  clear hn
  go_enter Tryz.func55, Tryz.ntmps55
  go_wp2
  go_quiet (fail)
  go_wp2
  go_ret
  exact ⟨ret_int (by first | exact HF.out | rfl), _, rfl⟩

/-- The times that the program keeps, against the counts. -/
structure Clk (n : Nat) (st : St) (ex : Ext) : Prop where
  n0 : 0 ≤ ex.now
  n1 : ex.now ≤ n
  nx : ¬ st.period = 0 → ex.next = ex.now + st.count
  p0 : st.period = 0 → st.count = 0
  fd : ex.fed = ex.now - st.age

set_option maxHeartbeats 400000 in
theorem tcount_any {n : Nat} (hn : n < 4611686018427387904) {l : XL} {st : St} {ex : Ext} {w : World} (hr : XRep l st ex w) (hi : Inv st) (hc : Clk n st ex) :
    Calls Tryz.prog 56 #[.pointer (some ⟨l.tm, 0, none⟩)] w fun e w' => e = .returned (.int .u8 st.count) ∧ Still w w' := by
  by_cases h : st.period = 0
  · rw [hc.p0 h]
    exact tcount_0 hr h
  · have := hc.n1
    exact tcount_1 hr (beq_eq_false_iff_ne.2 h) hc.n0 (by omega) (hc.nx h) hi.count.1 hi.count.2

set_option maxHeartbeats 400000 in
theorem tread_0 {l : XL} {st : St} {ex : Ext} {w : World} (hr : XRep l st ex w) :
    Calls Tryz.prog 143 #[.pointer (some ⟨l.tm, 0, none⟩), .int .u8 0] w fun e w' => e = .returned (.int .u8 st.period) ∧ Still w w' := by
  have c1 := hr.c_period
  go_enter Tryz.func143, Tryz.ntmps143
  go_wp2
  go_ret
  exact ⟨rfl, Kept.refl _ _⟩

set_option maxHeartbeats 400000 in
theorem tread_1 {n : Nat} (hn : n < 4611686018427387904) {l : XL} {st : St} {ex : Ext} {w : World} (hr : XRep l st ex w) (hi : Inv st) (hc : Clk n st ex) :
    Calls Tryz.prog 143 #[.pointer (some ⟨l.tm, 0, none⟩), .int .u8 1] w fun e w' => e = .returned (.int .u8 st.count) ∧ Still w w' := by
  go_enter Tryz.func143, Tryz.ntmps143
  go_wp2_with fail
  refine (tcount_any hn hr hi hc).mono ?_
  rintro e w1 ⟨rfl, k1⟩
  go_wp2
  go_ret
  exact ⟨rfl, k1⟩

set_option maxHeartbeats 400000 in
theorem tread_2 {l : XL} {st : St} {ex : Ext} {w : World} (hr : XRep l st ex w) :
    Calls Tryz.prog 143 #[.pointer (some ⟨l.tm, 0, none⟩), .int .u8 2] w fun e w' => e = .returned (.int .u8 (flagN st.flag)) ∧ Still w w' := by
  have c1 := hr.c_flag
  cases hf : st.flag
  · rw [hf] at c1
    clear hf
    go_enter Tryz.func143, Tryz.ntmps143
    go_wp2
    go_ret
    exact ⟨rfl, Kept.refl _ _⟩
  · rw [hf] at c1
    clear hf
    go_enter Tryz.func143, Tryz.ntmps143
    go_wp2
    go_ret
    exact ⟨rfl, Kept.refl _ _⟩

set_option maxHeartbeats 400000 in
theorem wread_0 {n : Nat} (hn : n < 4611686018427387904) {l : XL} {st : St} {ex : Ext} {w : World} (hr : XRep l st ex w) (hi : Inv st) (hc : Clk n st ex) :
    Calls Tryz.prog 145 #[.pointer (some ⟨l.wa, 0, none⟩), .int .u8 0] w fun e w' => e = .returned (.int .u8 st.age) ∧ Still w w' := by
  have hc1 := hc.n1
  obtain ⟨a0, a1⟩ := hi.age
  go_enter Tryz.func145, Tryz.ntmps145
  go_wp2_with fail
  refine (wage_any hr hc.n0 (by omega) hc.fd a0 a1).mono ?_
  rintro e w1 ⟨rfl, nq, rfl⟩
  go_wp2
  go_ret
  exact ⟨ret_int (by first | rfl | omega), (Kept.refl _ _).drewN _⟩

set_option maxHeartbeats 400000 in
theorem wread_1 {l : XL} {st : St} {ex : Ext} {w : World} (hr : XRep l st ex w) :
    Calls Tryz.prog 145 #[.pointer (some ⟨l.wa, 0, none⟩), .int .u8 1] w fun e w' => e = .returned (.int .u8 st.window) ∧ Still w w' := by
  have c1 := hr.c_window
  go_enter Tryz.func145, Tryz.ntmps145
  go_wp2
  go_ret
  exact ⟨rfl, Kept.refl _ _⟩

set_option maxHeartbeats 400000 in
theorem uread_0 {l : XL} {st : St} {ex : Ext} {w : World} (hr : XRep l st ex w) :
    Calls Tryz.prog 152 #[.pointer (some ⟨l.up, 0, none⟩), .int .u8 0] w fun e w' => e = .returned (.int .u8 (flagN st.opn)) ∧ Still w w' := by
  have c1 := hr.c_opn
  cases hf : st.opn
  · rw [hf] at c1
    clear hf
    go_enter Tryz.func152, Tryz.ntmps152
    go_wp2
    go_ret
    exact ⟨rfl, Kept.refl _ _⟩
  · rw [hf] at c1
    clear hf
    go_enter Tryz.func152, Tryz.ntmps152
    go_wp2
    go_ret
    exact ⟨rfl, Kept.refl _ _⟩

set_option maxHeartbeats 400000 in
theorem uread_1 {l : XL} {st : St} {ex : Ext} {w : World} (hr : XRep l st ex w) :
    Calls Tryz.prog 152 #[.pointer (some ⟨l.up, 0, none⟩), .int .u8 1] w fun e w' => e = .returned (.int .u8 st.place) ∧ Still w w' := by
  have c1 := hr.c_place
  go_enter Tryz.func152, Tryz.ntmps152
  go_wp2
  go_ret
  exact ⟨rfl, Kept.refl _ _⟩

set_option maxHeartbeats 400000 in
theorem uread_20 {l : XL} {st : St} {ex : Ext} {w : World} (hr : XRep l st ex w) (hb : st.bank = 0) (k : Nat) (hk : k < 64) (hp : st.place = k) :
    Calls Tryz.prog 152 #[.pointer (some ⟨l.up, 0, none⟩), .int .u8 2] w fun e w' => e = .returned (.int .u8 (st.b1 k)) ∧ Still w w' := by
  have c1 := hr.c_b1 k hk
  have c2 := hr.c_place
  have c3 := hr.c_ubk
  rw [hp] at c2
  have hk' : (k : Int) < 64 := by omega
  have HC : Hid _ := fun W (hW : Still w W) => kspare_0 (hr.kept hW (fun _ _ x => x)) hb
  have HS : Hid (∀ W, Still w W → W.cell? ⟨l.bk, 64 + k, none⟩ = some (.int .u8 (st.b1 k)) ∧ W.cell? ⟨l.up, 2, none⟩ = some (.int .u8 k) ∧ W.cell? ⟨l.up, 0, none⟩ = some (.pointer (some ⟨l.bk, 0, none⟩))) := fun W hW =>
    have h := hr.kept hW (fun _ _ x => x)
    ⟨h.c_b1 k hk, by rw [h.c_place, hp], h.c_ubk⟩
  clear hb hp
  go_enter Tryz.func152, Tryz.ntmps152
  go_wp2
  go_region_held3 (fun W => W.cell? ⟨l.bk, 64 + k, none⟩ = some (.int .u8 (st.b1 k)) ∧ W.cell? ⟨l.up, 2, none⟩ = some (.int .u8 k) ∧ W.cell? ⟨l.up, 0, none⟩ = some (.pointer (some ⟨l.bk, 0, none⟩))) (first | (apply HS.out; unfold Still; (repeat (with_reducible first | apply Kept.alloc | apply Kept.drewN | apply Kept.drew | apply Kept.nb | apply Kept.g | apply Kept.bs | apply Kept.ck | apply Kept.bk | apply Kept.tm | apply Kept.wa | apply Kept.po | apply Kept.up | apply Kept.re | apply Kept.me | refine Kept.setCell ?_ (Or.inr (Nat.le_refl _)) _ | refine Kept.setCell ?_ (Or.inr (by omega)) _ | exact k1 | exact k2 | exact k3 | exact Kept.refl _ _)); done) | go_keep) (first | (go_at_call 154; refine (HC.out _ (by unfold Still; (repeat (with_reducible first | apply Kept.alloc | apply Kept.drewN | apply Kept.drew | apply Kept.nb | apply Kept.g | apply Kept.bs | apply Kept.ck | apply Kept.bk | apply Kept.tm | apply Kept.wa | apply Kept.po | apply Kept.up | apply Kept.re | apply Kept.me | refine Kept.setCell ?_ (Or.inr (Nat.le_refl _)) _ | refine Kept.setCell ?_ (Or.inr (by omega)) _ | exact k1 | exact k2 | exact k3 | exact Kept.refl _ _)))).mono ?_; rintro e w' ⟨rfl, n, rfl⟩))
  go_wp2
  go_ret
  exact ⟨rfl, by unfold Still; (repeat (with_reducible first | apply Kept.alloc | apply Kept.drewN | apply Kept.drew | apply Kept.nb | apply Kept.g | apply Kept.bs | apply Kept.ck | apply Kept.bk | apply Kept.tm | apply Kept.wa | apply Kept.po | apply Kept.up | apply Kept.re | apply Kept.me | refine Kept.setCell ?_ (Or.inr (Nat.le_refl _)) _ | refine Kept.setCell ?_ (Or.inr (by omega)) _ | exact k1 | exact k2 | exact k3 | exact Kept.refl _ _))⟩

set_option maxHeartbeats 400000 in
theorem uread_21 {l : XL} {st : St} {ex : Ext} {w : World} (hr : XRep l st ex w) (hb : st.bank = 1) (k : Nat) (hk : k < 64) (hp : st.place = k) :
    Calls Tryz.prog 152 #[.pointer (some ⟨l.up, 0, none⟩), .int .u8 2] w fun e w' => e = .returned (.int .u8 (st.b0 k)) ∧ Still w w' := by
  have c1 := hr.c_b0 k hk
  have c2 := hr.c_place
  have c3 := hr.c_ubk
  rw [hp] at c2
  have hk' : (k : Int) < 64 := by omega
  have HC : Hid _ := fun W (hW : Still w W) => kspare_1 (hr.kept hW (fun _ _ x => x)) hb
  have HS : Hid (∀ W, Still w W → W.cell? ⟨l.bk, k, none⟩ = some (.int .u8 (st.b0 k)) ∧ W.cell? ⟨l.up, 2, none⟩ = some (.int .u8 k) ∧ W.cell? ⟨l.up, 0, none⟩ = some (.pointer (some ⟨l.bk, 0, none⟩))) := fun W hW =>
    have h := hr.kept hW (fun _ _ x => x)
    ⟨h.c_b0 k hk, by rw [h.c_place, hp], h.c_ubk⟩
  clear hb hp
  go_enter Tryz.func152, Tryz.ntmps152
  go_wp2
  go_region_held3 (fun W => W.cell? ⟨l.bk, k, none⟩ = some (.int .u8 (st.b0 k)) ∧ W.cell? ⟨l.up, 2, none⟩ = some (.int .u8 k) ∧ W.cell? ⟨l.up, 0, none⟩ = some (.pointer (some ⟨l.bk, 0, none⟩))) (first | (apply HS.out; unfold Still; (repeat (with_reducible first | apply Kept.alloc | apply Kept.drewN | apply Kept.drew | apply Kept.nb | apply Kept.g | apply Kept.bs | apply Kept.ck | apply Kept.bk | apply Kept.tm | apply Kept.wa | apply Kept.po | apply Kept.up | apply Kept.re | apply Kept.me | refine Kept.setCell ?_ (Or.inr (Nat.le_refl _)) _ | refine Kept.setCell ?_ (Or.inr (by omega)) _ | exact k1 | exact k2 | exact k3 | exact Kept.refl _ _)); done) | go_keep) (first | (go_at_call 154; refine (HC.out _ (by unfold Still; (repeat (with_reducible first | apply Kept.alloc | apply Kept.drewN | apply Kept.drew | apply Kept.nb | apply Kept.g | apply Kept.bs | apply Kept.ck | apply Kept.bk | apply Kept.tm | apply Kept.wa | apply Kept.po | apply Kept.up | apply Kept.re | apply Kept.me | refine Kept.setCell ?_ (Or.inr (Nat.le_refl _)) _ | refine Kept.setCell ?_ (Or.inr (by omega)) _ | exact k1 | exact k2 | exact k3 | exact Kept.refl _ _)))).mono ?_; rintro e w' ⟨rfl, n, rfl⟩))
  go_wp2
  go_ret
  exact ⟨rfl, by unfold Still; (repeat (with_reducible first | apply Kept.alloc | apply Kept.drewN | apply Kept.drew | apply Kept.nb | apply Kept.g | apply Kept.bs | apply Kept.ck | apply Kept.bk | apply Kept.tm | apply Kept.wa | apply Kept.po | apply Kept.up | apply Kept.re | apply Kept.me | refine Kept.setCell ?_ (Or.inr (Nat.le_refl _)) _ | refine Kept.setCell ?_ (Or.inr (by omega)) _ | exact k1 | exact k2 | exact k3 | exact Kept.refl _ _))⟩

end Go.Proofs.YtommhbidkoeifaaGreat
