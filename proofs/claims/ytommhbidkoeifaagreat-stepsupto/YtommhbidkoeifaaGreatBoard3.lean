/- The program's board: the processor has its cycle, then timer and watch. -/
import Derived.Test.YtommhbidkoeifaaGreatTickP
namespace Go.Proofs.YtommhbidkoeifaaGreat
open Go.RowKit
set_option linter.unusedVariables false

/-- What holds of what stands beside, between two cycles. -/
structure XOk (n : Nat) (st : St) (ex : Ext) : Prop where
  clk : Clk n st ex
  dso : DsOk ex.due
  run : st.left = 0 → 0 ≤ st.bank → Rel n st ex

theorem Clk.more {n m : Nat} {st : St} {ex : Ext} (h : Clk n st ex) (hm : n ≤ m) : Clk m st ex := ⟨h.n0, by have := h.n1; omega, h.nx, h.p0, h.fd⟩
theorem Rel.more {n m : Nat} {st : St} {ex : Ext} (h : Rel n st ex) (hm : n ≤ m) : Rel m st ex := ⟨h.clk.more hm, h.due, h.ph, h.early⟩
theorem XOk.more {n m : Nat} {st : St} {ex : Ext} (h : XOk n st ex) (hm : n ≤ m) : XOk m st ex := ⟨h.clk.more hm, h.dso, fun a b => (h.run a b).more hm⟩

/-- A reset leaves what stands beside. -/
theorem XOk.reset {n : Nat} {st : St} {ex : Ext} (hc : Clk n st ex) (hd : DsOk ex.due) (c : Int) : XOk n (st.reset c) ex :=
  ⟨hc.as rfl rfl rfl (reset_same st c).1 (reset_same st c).2.1 (reset_same st c).2.2, hd, fun a => absurd ((reset_rst st c).2.1.symm.trans a) (by decide)⟩

theorem xtick_any {n : Nat} (hn : n < 4611686018427387903) {l : XL} {st : St} {ex : Ext} {w : World} (hr : XRep l st ex w) (hi : Inv st) (h : Rel n st ex) (hb : st.bank = 0 ∨ st.bank = 1) (hl : st.left = 0) :
    Calls Tryz.prog 74 #[.pointer (some ⟨l.g, 0, none⟩)] w fun e w' => e = .returned (.tuple #[]) ∧ ∃ F, Went l st.ticks.ages F w w' ∧ XOk (n + 1) st.ticks.ages F := by
  obtain ⟨T, F, htk, hal, h1, h2⟩ := tick_pure hi h (hi.aged hl)
  have hn1 := h.clk.n1
  refine (xtick_walk hr h.ok h.clk.n0 (by omega) hi.period.1 hi.period.2 hb 3 T F htk).mono fun e w' ⟨he, hw⟩ => ⟨he, F, hw.alike hal, ?_⟩
  by_cases hlate : 250 < st.age + 1
  · obtain ⟨q1, q2⟩ := h2 hlate
    refine ⟨q1, q2, fun a => ?_⟩
    have ea : st.ticks.ages = ({ st.ticks with age := st.ticks.age + 1 } : St).reset 2 := by
      unfold St.ages
      rw [(ticks_other st).2.2, if_pos hlate]
    rw [ea, (reset_rst _ 2).2.1] at a
    exact absurd a (by decide)
  · have q := h1 hlate
    exact ⟨q.clk, q.ok, fun _ _ => q⟩

theorem zCycle_norm {n : Nat} {l : XL} {st : St} {w w' : World} {e : Ending} (h : CyR n l st w e w') (h0 : st.works.1.rst = 0) : e = .returned (cyc st.works.2) ∧ ∃ E, Went l st.works.1 E w w' ∧ Rel n st.works.1 E := by
  rcases h with ⟨E, h1, _, h3, h4⟩ | ⟨S, E, _, h2, _⟩ | ⟨S, E, _, h2, _⟩
  · exact ⟨h1, E, h3, h4⟩
  · rw [h2, (reset_rst S 3).1] at h0; exact absurd h0 (by decide)
  · rw [h2, (reset_rst S 4).1] at h0; exact absurd h0 (by decide)

theorem zCycle_soon {n : Nat} {l : XL} {st : St} {w w' : World} {e : Ending} (h : CyR n l st w e w') (h0 : st.works.1.rst = 3) : e = .returned (cyc st.works.2) ∧ ∃ S E, st.works.1 = S.reset 3 ∧ Went l S E w w' ∧ E.early = true ∧ S.bank = st.bank ∧ Clk n S E ∧ DsOk E.due := by
  rcases h with ⟨E, h1, h2, h3, h4⟩ | ⟨S, E, h1, h2, h3, h4, h5, h6, h7⟩ | ⟨S, E, _, h2, _⟩
  · rw [h2] at h0; exact absurd h0 (by decide)
  · exact ⟨h1, S, E, h2, h3, h4, h5, h6, h7⟩
  · rw [h2, (reset_rst S 4).1] at h0; exact absurd h0 (by decide)

theorem zCycle_falls {n : Nat} {l : XL} {st : St} {w w' : World} {e : Ending} (h : CyR n l st w e w') (h0 : ¬ st.works.1.rst = 0) (h3 : ¬ st.works.1.rst = 3) : e = .panicked [{ v := .iface 150 (cyc st.works.2), recovered := false }] ∧ ∃ S E, st.works.1 = S.reset 4 ∧ Went l S E w w' ∧ S.bank = st.bank ∧ Clk n S E ∧ DsOk E.due := by
  rcases h with ⟨E, h1, h2, _, h4⟩ | ⟨S, E, h1, h2, _⟩ | ⟨S, E, h1, h2, q3, h5, h6, h7⟩
  · exact absurd h2 h0
  · rw [h2, (reset_rst S 3).1] at h3; exact absurd rfl h3
  · exact ⟨h1, S, E, h2, q3, h5, h6, h7⟩

/-- The worlds in which the processor's cycle may be asked for. -/
theorem run_world (w : World) (b : Nat) (p : Value) : ((w.setCell ⟨b, 1, none⟩ p).alloc zc).heap[w.heap.size]? = some zc := by
  have e := heap_at (w.setCell ⟨b, 1, none⟩ p) zc
  have e2 : (w.setCell ⟨b, 1, none⟩ p).heap.size = w.heap.size := by simp [World.setCell]
  rw [e2] at e
  exact e

theorem run_world2 (w : World) (b : Nat) (p : Value) : (((w.setCell ⟨b, 1, none⟩ p).alloc zc).alloc zc).heap[w.heap.size]? = some zc ∧ (((w.setCell ⟨b, 1, none⟩ p).alloc zc).alloc zc).heap[w.heap.size + 1]? = some zc := by
  have e2 : ((w.setCell ⟨b, 1, none⟩ p).alloc zc).heap.size = w.heap.size + 1 := by rw [World.size_alloc]; simp [World.setCell]
  constructor
  · rw [Below.heap_alloc _ _ _ (by rw [e2]; omega)]
    exact run_world w b p
  · have e := heap_at ((w.setCell ⟨b, 1, none⟩ p).alloc zc) zc
    rw [e2] at e
    exact e

/-- What a callee that went leaves of a block that is none of the board's. -/
theorem Went.blk {l : XL} {st st0 : St} {ex ex0 : Ext} {w W w1 : World} {b : Nat} (hr : XRep l st0 ex0 w) (hb : w.heap.size ≤ b) (hh : W.heap[b]? = some zc) (h : Went l st ex W w1) :
    w1.heap[b]? = some zc := by
  obtain ⟨l', g, r, k⟩ := h
  have hlt := (Array.getElem?_eq_some_iff.1 hh).1
  exact (k.block b hlt (hr.fresh _ hb)).trans hh

end Go.Proofs.YtommhbidkoeifaaGreat
