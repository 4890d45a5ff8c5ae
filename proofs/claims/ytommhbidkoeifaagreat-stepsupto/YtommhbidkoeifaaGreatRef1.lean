/- The document's board, its small functions: flag, length, set, setX, reset. -/
import Derived.Test.YtommhbidkoeifaaGreatRep
import Derived.RegionTactic
import Derived.BigRegion
namespace Go.Proofs.YtommhbidkoeifaaGreat
open Go.RowKit

theorem Rep.as {L : Lay} {st st' : St} {w : World} (h : Rep L st w) (e : st = st') : Rep L st' w := e ▸ h

theorem own_rg (L : Lay) : L.own L.g := Or.inl rfl
theorem own_p (L : Lay) : L.own L.p := Or.inr (Or.inl rfl)
theorem own_q (L : Lay) : L.own L.q := Or.inr (Or.inr rfl)

theorem Kept.rg {L : Lay} {a w : World} (h : Kept L.own a w) (j : Nat) (u : Value) : Kept L.own a (w.setCell ⟨L.g, j, none⟩ u) := h.setCell (Or.inl (own_rg L)) u

set_option maxHeartbeats 400000 in
theorem rFlag_any (b : Bool) (w : World) : Calls Tryz.prog 90 #[.bool b] w fun e w' => e = .returned (.int .u8 (flagN b)) ∧ w' = w := by
  cases b
  · go_enter Tryz.func90, Tryz.ntmps90
    go_wp2
    go_ret
    exact ⟨rfl, rfl⟩
  · go_enter Tryz.func90, Tryz.ntmps90
    go_wp2
    go_ret
    exact ⟨rfl, rfl⟩

set_option maxHeartbeats 400000 in
theorem Rset_any {L : Lay} {st : St} {w : World} (hr : Rep L st w) (n : Int) (h0 : -512 ≤ n) (h1 : n ≤ 100000) :
    Calls Tryz.prog 76 #[.pointer (some ⟨L.g, 0, none⟩), .int .i64 n] w fun e w' => e = .returned (.tuple #[]) ∧ Rep L (st.setA n) w' ∧ Kept L.own w w' := by
  have c1 := hr.c_a
  have f1 := hr.f_a
  have c2 := hr.c_zero
  have f2 := hr.f_zero
  go_enter Tryz.func76, Tryz.ntmps76
  go_wp2
  go_end0
  have e1 : (n + 512) % 256 = n % 256 := by omega
  exact ⟨rfl, ((hr.set_a _).set_zero _).as (by rw [e1]; rfl), ((Kept.refl _ _).rg _ _).rg _ _⟩

set_option maxHeartbeats 400000 in
theorem RsetX_any {L : Lay} {st : St} {w : World} (hr : Rep L st w) (n : Int) (h0 : -256 ≤ n) (h1 : n ≤ 100000) :
    Calls Tryz.prog 78 #[.pointer (some ⟨L.g, 0, none⟩), .int .i64 n] w fun e w' => e = .returned (.tuple #[]) ∧ Rep L (st.setX n) w' ∧ Kept L.own w w' := by
  have c1 := hr.c_x
  have f1 := hr.f_x
  have c2 := hr.c_zero
  have f2 := hr.f_zero
  go_enter Tryz.func78, Tryz.ntmps78
  go_wp2
  go_end0
  exact ⟨rfl, ((hr.set_x _).set_zero _).as rfl, ((Kept.refl _ _).rg _ _).rg _ _⟩

set_option maxHeartbeats 400000 in
theorem Rreset_no {L : Lay} {st : St} {w : World} (hr : Rep L st w) (c : Int) (hc : strikesB c = false) :
    Calls Tryz.prog 46 #[.pointer (some ⟨L.g, 0, none⟩), .int .i64 c] w fun e w' => e = .returned (.tuple #[]) ∧ Rep L (st.reset c) w' ∧ Kept L.own w w' := by
  have HF : Hid (st.reset c = { st with cause := c, left := 4, rst := c }) := by simp [Hid, St.reset, hc]
  simp only [strikesB, Bool.or_eq_false_iff] at hc
  obtain ⟨⟨h2, h3⟩, h4⟩ := hc
  have c1 := hr.c_cause
  have f1 := hr.f_cause
  have c2 := hr.c_left
  have f2 := hr.f_left
  have c3 := hr.c_rst
  have f3 := hr.f_rst
  go_enter Tryz.func46, Tryz.ntmps46
  go_wp2
  go_end0
  exact ⟨rfl, (((hr.set_cause _).set_left _).set_rst _).as HF.out.symm, (((Kept.refl _ _).rg _ _).rg _ _).rg _ _⟩

set_option maxHeartbeats 400000 in
theorem Rreset_yes0 {L : Lay} {st : St} {w : World} (hr : Rep L st w) (c : Int) (hc : c = 2 ∨ c = 3 ∨ c = 4) (hb : st.bank = 0) :
    Calls Tryz.prog 46 #[.pointer (some ⟨L.g, 0, none⟩), .int .i64 c] w fun e w' => e = .returned (.tuple #[]) ∧ Rep L (st.reset c) w' ∧ Kept L.own w w' := by
  have HF : Hid (st.reset c = { st with cause := c, left := 4, rst := c, s0 := wrap64 (st.s0 + 1) }) := by
    have : strikesB c = true := by rcases hc with rfl | rfl | rfl <;> rfl
    simp [Hid, St.reset, this, St.setStrikes, St.strikes, hb]
  have cb := hr.c_bank
  rw [hb] at cb
  have c1 := hr.c_cause
  have f1 := hr.f_cause
  have c2 := hr.c_left
  have f2 := hr.f_left
  have c3 := hr.c_rst
  have f3 := hr.f_rst
  have c4 := hr.c_s0
  have f4 := hr.f_s0
  rcases hc with rfl | rfl | rfl
  all_goals
    go_enter Tryz.func46, Tryz.ntmps46
    go_wp2
    go_region
    go_end0
    exact ⟨rfl, (((((hr.set_cause _).set_left _).set_rst _).set_s0 _).drew).as HF.out.symm, (((((Kept.refl _ _).rg _ _).rg _ _).rg _ _).rg _ _).drew⟩

set_option maxHeartbeats 400000 in
theorem Rreset_yes1 {L : Lay} {st : St} {w : World} (hr : Rep L st w) (c : Int) (hc : c = 2 ∨ c = 3 ∨ c = 4) (hb : st.bank = 1) :
    Calls Tryz.prog 46 #[.pointer (some ⟨L.g, 0, none⟩), .int .i64 c] w fun e w' => e = .returned (.tuple #[]) ∧ Rep L (st.reset c) w' ∧ Kept L.own w w' := by
  have HF : Hid (st.reset c = { st with cause := c, left := 4, rst := c, s1 := wrap64 (st.s1 + 1) }) := by
    have : strikesB c = true := by rcases hc with rfl | rfl | rfl <;> rfl
    simp [Hid, St.reset, this, St.setStrikes, St.strikes, hb]
  have cb := hr.c_bank
  rw [hb] at cb
  have c1 := hr.c_cause
  have f1 := hr.f_cause
  have c2 := hr.c_left
  have f2 := hr.f_left
  have c3 := hr.c_rst
  have f3 := hr.f_rst
  have c4 := hr.c_s1
  have f4 := hr.f_s1
  rcases hc with rfl | rfl | rfl
  all_goals
    go_enter Tryz.func46, Tryz.ntmps46
    go_wp2
    go_region
    go_end0
    exact ⟨rfl, (((((hr.set_cause _).set_left _).set_rst _).set_s1 _).drew).as HF.out.symm, (((((Kept.refl _ _).rg _ _).rg _ _).rg _ _).rg _ _).drew⟩

/-- A reset with a strike wants a bank that was chosen. -/
theorem Rreset_any {L : Lay} {st : St} {w : World} (hr : Rep L st w) (c : Int) (h : strikesB c = false ∨ st.bank = 0 ∨ st.bank = 1) :
    Calls Tryz.prog 46 #[.pointer (some ⟨L.g, 0, none⟩), .int .i64 c] w fun e w' => e = .returned (.tuple #[]) ∧ Rep L (st.reset c) w' ∧ Kept L.own w w' := by
  cases hc : strikesB c
  · exact Rreset_no hr c hc
  · have hc' : c = 2 ∨ c = 3 ∨ c = 4 := by simp [strikesB] at hc; omega
    rcases h with h | h | h
    · rw [h] at hc; cases hc
    · exact Rreset_yes0 hr c hc' h
    · exact Rreset_yes1 hr c hc' h

end Go.Proofs.YtommhbidkoeifaaGreat
