/- What is due, against counts that go down: one cycle for timer and watch, in plain mathematics. -/
import Derived.Test.YtommhbidkoeifaaGreatBoard2
namespace Go.Proofs.YtommhbidkoeifaaGreat
open Go.RowKit
set_option linter.unusedVariables false

theorem reset_alike (s : St) (op opd ph co ag inp rs c : Int) : Alike (s.reset c) (({ s with op := op, opd := opd, phase := ph, count := co, age := ag, inp := inp, rst := rs } : St).reset c) := by
  unfold Alike St.reset St.setStrikes St.strikes
  cases strikesB c
  · rfl
  · simp only [if_true]
    by_cases hb : s.bank = 0
    · simp [hb]
    · simp [hb]

theorem reset_alike' {s t : St} (h : Alike s t) (c : Int) : Alike (s.reset c) (t.reset c) := by
  have h2 := reset_alike s t.op t.opd t.phase t.count t.age t.inp t.rst c
  rw [← h] at h2
  exact h2

theorem tk_none (k : Nat) (S : St) (E : Ext) (h : E.due = [] ∨ ∃ d r, E.due = d :: r ∧ E.now < d.at_) : tk (k + 1) S E = some (S, E) := by
  unfold tk
  rcases h with h | ⟨d, r, h, h2⟩
  · rw [h]
  · rw [h]; simp only [if_pos h2]

theorem tk_watch (k : Nat) (S : St) (E : Ext) (t : Int) (r : List Du) (h : E.due = ⟨true, t⟩ :: r) (h2 : t ≤ E.now) : tk (k + 1) S E = tk k (S.reset 2) { E with due := r } := by
  rw [tk]
  rw [h]
  simp only [if_neg (show ¬ E.now < t by omega), if_true]

theorem tk_timer (k : Nat) (S : St) (E : Ext) (t : Int) (r : List Du) (h : E.due = ⟨false, t⟩ :: r) (h2 : t ≤ E.now) : tk (k + 1) S E = tk k { S with flag := true } { E with next := E.now + S.period, due := putD r ⟨false, E.now + S.period⟩ } := by
  rw [tk]
  rw [h]
  simp only [if_neg (show ¬ E.now < t by omega), Bool.false_eq_true, if_false]

theorem PhR.as {st st' : St} {ex ex' : Ext} (h : PhR st ex) (h1 : st'.phase = st.phase) (h2 : st'.op = st.op) (h3 : st'.opd = st.opd) (h4 : st'.x = st.x) (h5 : ex'.ph = ex.ph) (h6 : ex'.wait = ex.wait) (h7 : ex'.op = ex.op) (h8 : ex'.addr = ex.addr) : PhR st' ex' := by
  refine ⟨?_, ?_, ?_, ?_⟩
  · rw [h1, h5, h6]; exact h.p0
  · rw [h1, h5, h6, h7, h2]; exact h.p1
  · rw [h1, h5, h6, h7, h8, h2, h3]
    have : st'.target st.op st.opd = st.target st.op st.opd := by unfold St.target; rw [h4]
    rw [this]
    exact h.p2
  · rw [h1, h5, h6]; exact h.p3

theorem tick_pure {n : Nat} {S : St} {E : Ext} (hi : Inv S) (h : Rel n S E) (ha : S.age ≤ 250) :
    ∃ T F, tk 3 S { E with now := E.now + 1 } = some (T, F) ∧ Alike T S.ticks.ages ∧ (¬ 250 < S.age + 1 → Rel (n + 1) S.ticks.ages F) ∧ (250 < S.age + 1 → Clk (n + 1) S.ticks.ages F ∧ DsOk F.due) := by
  have hn0 := h.clk.n0
  have hn1 := h.clk.n1
  have hfd := h.clk.fd
  have hdue := h.due
  have hag := hi.age
  have hcn : ((n + 1 : Nat) : Int) = (n : Int) + 1 := by omega
  have resetClk : ∀ (t : St) (F : Ext), Clk (n + 1) t F → Clk (n + 1) (t.reset 2) F := fun t F hc => hc.as rfl rfl rfl (reset_same t 2).1 (reset_same t 2).2.1 (reset_same t 2).2.2
  by_cases hp : S.period = 0
  · have et : S.ticks = S := by unfold St.ticks; rw [if_neg (by omega)]
    have ed : E.due = [⟨true, E.fed + 251⟩] := by rw [hdue, hp]; rfl
    have hc0 := h.clk.p0 hp
    rw [et]
    by_cases hl : 250 < S.age + 1
    · have ea : S.ages = ({ S with age := S.age + 1 } : St).reset 2 := by unfold St.ages; rw [if_pos hl]
      refine ⟨S.reset 2, { E with now := E.now + 1, due := [] }, ?_, ?_, fun x => absurd hl x, fun _ => ⟨?_, Or.inl rfl⟩⟩
      · exact (tk_watch 2 S { E with now := E.now + 1 } (E.fed + 251) [] ed (by show E.fed + 251 ≤ E.now + 1; omega)).trans (tk_none 1 _ _ (Or.inl rfl))
      · rw [ea]; exact reset_alike _ _ _ _ _ _ _ _ 2
      · rw [ea]
        exact resetClk _ _ ⟨by show 0 ≤ E.now + 1; omega, by show E.now + 1 ≤ _; omega, fun x => absurd hp x, fun _ => hc0, by show E.fed = E.now + 1 - (S.age + 1); omega⟩
    · have ea : S.ages = { S with age := S.age + 1 } := by unfold St.ages; rw [if_neg hl]
      refine ⟨S, { E with now := E.now + 1 }, tk_none 2 _ _ (Or.inr ⟨_, _, ed, by show E.now + 1 < E.fed + 251; omega⟩), ?_, fun _ => ?_, fun x => absurd x hl⟩
      · rw [ea]; rfl
      · rw [ea]
        exact ⟨⟨by show 0 ≤ E.now + 1; omega, by show E.now + 1 ≤ _; omega, fun x => absurd hp x, fun _ => hc0, by show E.fed = E.now + 1 - (S.age + 1); omega⟩, hdue, h.ph.as rfl rfl rfl rfl rfl rfl rfl rfl, h.early⟩
  · have hper := hi.period
    have hcnt := hi.cnt (by omega)
    have hnx := h.clk.nx hp
    have hP : 0 < S.period := by omega
    by_cases hc : S.count - 1 = 0
    · have et : S.ticks = { S with count := S.period, flag := true } := by unfold St.ticks; rw [if_pos hP, if_pos hc]
      have ed : E.due = [⟨false, E.next⟩, ⟨true, E.fed + 251⟩] := by rw [hdue]; unfold canon; rw [if_neg hp, if_pos (by omega)]
      have e1 : tk 3 S { E with now := E.now + 1 } = tk 2 { S with flag := true } { E with now := E.now + 1, next := E.now + 1 + S.period, due := canon S.period (E.now + 1 + S.period) (E.fed + 251) } := by
        refine (tk_timer 2 S { E with now := E.now + 1 } E.next [⟨true, E.fed + 251⟩] ed (by show E.next ≤ E.now + 1; omega)).trans ?_
        show tk 2 _ { E with now := E.now + 1, next := E.now + 1 + S.period, due := putD [⟨true, E.fed + 251⟩] ⟨false, E.now + 1 + S.period⟩ } = _
        rw [put_timer _ _ S.period hp]
      rw [et, e1]
      by_cases hl : 250 < S.age + 1
      · have ea : ({ S with count := S.period, flag := true } : St).ages = ({ S with count := S.period, flag := true, age := S.age + 1 } : St).reset 2 := by unfold St.ages; rw [if_pos hl]
        have ed2 : canon S.period (E.now + 1 + S.period) (E.fed + 251) = [⟨true, E.fed + 251⟩, ⟨false, E.now + 1 + S.period⟩] := by unfold canon; rw [if_neg hp, if_neg (by omega)]
        refine ⟨({ S with flag := true } : St).reset 2, { E with now := E.now + 1, next := E.now + 1 + S.period, due := [⟨false, E.now + 1 + S.period⟩] }, ?_, ?_, fun x => absurd hl x, fun _ => ⟨?_, Or.inr (Or.inl ⟨_, rfl⟩)⟩⟩
        · refine (tk_watch 1 { S with flag := true } { E with now := E.now + 1, next := E.now + 1 + S.period, due := canon S.period (E.now + 1 + S.period) (E.fed + 251) } (E.fed + 251) [⟨false, E.now + 1 + S.period⟩] ed2 (by show E.fed + 251 ≤ E.now + 1; omega)).trans ?_
          exact tk_none 0 _ _ (Or.inr ⟨_, _, rfl, by show E.now + 1 < E.now + 1 + S.period; omega⟩)
        · rw [ea]; exact reset_alike _ _ _ _ _ _ _ _ 2
        · rw [ea]
          exact resetClk _ _ ⟨by show 0 ≤ E.now + 1; omega, by show E.now + 1 ≤ _; omega, fun _ => rfl, fun x => absurd x hp, by show E.fed = E.now + 1 - (S.age + 1); omega⟩
      · have ea : ({ S with count := S.period, flag := true } : St).ages = { S with count := S.period, flag := true, age := S.age + 1 } := by unfold St.ages; rw [if_neg hl]
        refine ⟨{ S with flag := true }, { E with now := E.now + 1, next := E.now + 1 + S.period, due := canon S.period (E.now + 1 + S.period) (E.fed + 251) }, ?_, ?_, fun _ => ?_, fun x => absurd x hl⟩
        · refine tk_none 1 _ _ (Or.inr ?_)
          show ∃ d r, canon S.period (E.now + 1 + S.period) (E.fed + 251) = d :: r ∧ E.now + 1 < d.at_
          unfold canon
          rw [if_neg hp]
          by_cases hx : E.now + 1 + S.period ≤ E.fed + 251
          · rw [if_pos hx]; exact ⟨_, _, rfl, by show E.now + 1 < E.now + 1 + S.period; omega⟩
          · rw [if_neg hx]; exact ⟨_, _, rfl, by show E.now + 1 < E.fed + 251; omega⟩
        · rw [ea]; rfl
        · rw [ea]
          exact ⟨⟨by show 0 ≤ E.now + 1; omega, by show E.now + 1 ≤ _; omega, fun _ => rfl, fun x => absurd x hp, by show E.fed = E.now + 1 - (S.age + 1); omega⟩, rfl, h.ph.as rfl rfl rfl rfl rfl rfl rfl rfl, h.early⟩
    · have et : S.ticks = { S with count := S.count - 1 } := by unfold St.ticks; rw [if_pos hP, if_neg hc]
      rw [et]
      by_cases hl : 250 < S.age + 1
      · have ea : ({ S with count := S.count - 1 } : St).ages = ({ S with count := S.count - 1, age := S.age + 1 } : St).reset 2 := by unfold St.ages; rw [if_pos hl]
        have ed : E.due = [⟨true, E.fed + 251⟩, ⟨false, E.next⟩] := by rw [hdue]; unfold canon; rw [if_neg hp, if_neg (by omega)]
        refine ⟨S.reset 2, { E with now := E.now + 1, due := [⟨false, E.next⟩] }, ?_, ?_, fun x => absurd hl x, fun _ => ⟨?_, Or.inr (Or.inl ⟨_, rfl⟩)⟩⟩
        · refine (tk_watch 2 S { E with now := E.now + 1 } (E.fed + 251) [⟨false, E.next⟩] ed (by show E.fed + 251 ≤ E.now + 1; omega)).trans ?_
          exact tk_none 1 _ _ (Or.inr ⟨_, _, rfl, by show E.now + 1 < E.next; omega⟩)
        · rw [ea]; exact reset_alike _ _ _ _ _ _ _ _ 2
        · rw [ea]
          exact resetClk _ _ ⟨by show 0 ≤ E.now + 1; omega, by show E.now + 1 ≤ _; omega, fun _ => by show E.next = E.now + 1 + (S.count - 1); omega, fun x => absurd x hp, by show E.fed = E.now + 1 - (S.age + 1); omega⟩
      · have ea : ({ S with count := S.count - 1 } : St).ages = { S with count := S.count - 1, age := S.age + 1 } := by unfold St.ages; rw [if_neg hl]
        refine ⟨S, { E with now := E.now + 1 }, ?_, ?_, fun _ => ?_, fun x => absurd x hl⟩
        · refine tk_none 2 _ _ (Or.inr ?_)
          show ∃ d r, E.due = d :: r ∧ E.now + 1 < d.at_
          rw [hdue]
          unfold canon
          rw [if_neg hp]
          by_cases hx : E.next ≤ E.fed + 251
          · rw [if_pos hx]; exact ⟨_, _, rfl, by show E.now + 1 < E.next; omega⟩
          · rw [if_neg hx]; exact ⟨_, _, rfl, by show E.now + 1 < E.fed + 251; omega⟩
        · rw [ea]; rfl
        · rw [ea]
          exact ⟨⟨by show 0 ≤ E.now + 1; omega, by show E.now + 1 ≤ _; omega, fun _ => by show E.next = E.now + 1 + (S.count - 1); omega, fun x => absurd x hp, by show E.fed = E.now + 1 - (S.age + 1); omega⟩, hdue, h.ph.as rfl rfl rfl rfl rfl rfl rfl rfl, h.early⟩

end Go.Proofs.YtommhbidkoeifaaGreat
