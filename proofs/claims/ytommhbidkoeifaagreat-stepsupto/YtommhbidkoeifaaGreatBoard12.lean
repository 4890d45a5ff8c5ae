/- The program's board: a step, whatever the input. -/
import Derived.Test.YtommhbidkoeifaaGreatBoard11
namespace Go.Proofs.YtommhbidkoeifaaGreat
open Go.RowKit
set_option linter.unusedVariables false

theorem step_runs {st : St} {i : In} (h1 : (st.supply i).down = false) (h2 : i.reset = false) (h3 : st.left = 0) (h4 : 0 ≤ st.bank) : st.step i = (st.supply i).runs := by
  have sup := supply_same st i
  unfold St.step
  rw [if_neg (by rw [h1]; decide), if_neg (by rw [h2]; decide), if_neg (by rw [sup.2.2.2.1]; omega), if_neg (by rw [sup.2.2.2.2.1]; omega)]

theorem xStep_any {n : Nat} (hn : n < 4611686018427387903) {l : XL} {st : St} {ex : Ext} {w : World} (hr : XRep l st ex w) (hi : Inv st) (h : XOk n st ex) (rs : Bool) (v p : Int) (hp0 : 0 ≤ p) (hp1 : p ≤ 255) :
    Calls Tryz.prog 53 #[.pointer (some ⟨l.g, 0, none⟩), .agg #[.bool rs, .int .i64 v, .int .u8 p]] w fun e w' => e = .returned (.agg #[.int .i64 (st.step ⟨rs, v, p⟩).2.kind, .int .i64 (st.step ⟨rs, v, p⟩).2.addr, .int .u8 (st.step ⟨rs, v, p⟩).2.data, .int .u8 (st.step ⟨rs, v, p⟩).2.out]) ∧ ∃ E, Went l (st.step ⟨rs, v, p⟩).1 E w w' ∧ XOk (n + 1) (st.step ⟨rs, v, p⟩).1 E := by
  cases hdn : (st.supply ⟨rs, v, p⟩).down with
  | true => exact xStep_down hn hr hi h rs v p hp0 hp1 hdn
  | false =>
    cases hrs : rs with
    | true => subst hrs; exact xStep_pin hn hr hi h true v p hp0 hp1 hdn rfl
    | false =>
      subst hrs
      by_cases hl : 0 < st.left
      · by_cases hl1 : st.left - 1 = 0
        · exact xStep_boot hn hr hi h false v p hp0 hp1 hdn rfl (by omega)
        · exact xStep_more hn hr hi h false v p hp0 hp1 hdn rfl hl hl1
      · have hl0 : st.left = 0 := by have := hi.left; omega
        have hbr := hi.bank
        by_cases hbk : st.bank = -1
        · exact xStep_dead hn hr hi h false v p hp0 hp1 hdn rfl hl0 hbk
        · have hb : st.bank = 0 ∨ st.bank = 1 := by omega
          have sup := supply_same st ⟨false, v, p⟩
          have hs := step_runs (i := ⟨false, v, p⟩) hdn rfl hl0 (by omega)
          have hi1 : Inv (st.supply ⟨false, v, p⟩) := hi.supply _ ⟨hp0, hp1⟩
          have hR0 := (h.supply ⟨false, v, p⟩).run (by rw [sup.2.2.2.1]; exact hl0) (by rw [sup.2.2.2.2.1]; omega)
          have hinp := sup.2.2.2.2.2.2.2.2.2
          have hlu : (st.supply ⟨false, v, p⟩).left = 0 := by rw [sup.2.2.2.1]; exact hl0
          have hbu : (st.supply ⟨false, v, p⟩).bank = 0 ∨ (st.supply ⟨false, v, p⟩).bank = 1 := by rw [sup.2.2.2.2.1]; exact hb
          have hRN := @xStep_runs n hn l st ex w hr hi h false v p hp0 hp1 hdn rfl hl0 hb
          have hTR := @xStep_trap n hn l st ex w hr hi h false v p hp0 hp1 hdn rfl hl0 hb
          rw [hs] at hRN hTR ⊢
          generalize st.supply ⟨false, v, p⟩ = u at *
          have hi2 : Inv ({ u with rst := 0 } : St) := { hi1 with }
          have hR : Rel n ({ u with rst := 0 } : St) ex := ⟨hR0.clk.as rfl rfl rfl rfl rfl rfl, hR0.due, hR0.ph.as rfl rfl rfl rfl rfl rfl rfl rfl, hR0.early⟩
          have hXR : ∀ W, XRep l u ex W → XRep l ({ u with rst := 0 } : St) ex W := fun W hw => hw.ghost u.op u.opd u.phase u.count u.age u.inp 0
          have hb2 : ({ u with rst := 0 } : St).bank = 0 ∨ ({ u with rst := 0 } : St).bank = 1 := hbu
          have hbw := works_bank ({ u with rst := 0 } : St)
          have hlw := works_calm ({ u with rst := 0 } : St)
          have hiw := hi2.works (by rcases hb2 with x | x <;> rw [x] <;> decide)
          by_cases h0 : ({ u with rst := 0 } : St).works.1.rst = 0
          · refine hRN ({ u with rst := 0 } : St).works.2 ({ u with rst := 0 } : St).works.1.ticks.ages (by unfold St.runs; simp only [if_pos h0]) fun W hW => ?_
            exact xrun_norm hn (hXR W hW) hi2 hR hb2 hlu rfl p hinp _ _ rfl h0 hiw (by rw [hbw]; exact hb2) ((hlw h0).trans hlu)
          · by_cases h3 : ({ u with rst := 0 } : St).works.1.rst = 3
            · refine hRN ({ u with rst := 0 } : St).works.2 ({ u with rst := 0 } : St).works.1 (by unfold St.runs; simp only [if_neg h0]) fun W hW => ?_
              refine (xrun_soon hn (hXR W hW) hi2 hR hb2 hlu rfl p hinp _ rfl h3).mono fun e w' ⟨q1, S, F, q2, q3, q4⟩ => ?_
              rw [q2]
              exact ⟨q1, F, q3, q4⟩
            · refine hTR ({ u with rst := 0 } : St).works.2 ({ u with rst := 0 } : St).works.1 (by unfold St.runs; simp only [if_neg h0]) fun W hW => ?_
              refine (xrun_trap hn (hXR W hW) hi2 hR hb2 hlu rfl p hinp _ rfl h0 h3).mono fun e w' ⟨q1, S, F, q2, q3, q4, q5, q6⟩ => ?_
              exact ⟨q1, S, F, q2, q3, by rw [q4]; exact hb2, q5.more (Nat.le_succ n), q6⟩

end Go.Proofs.YtommhbidkoeifaaGreat
