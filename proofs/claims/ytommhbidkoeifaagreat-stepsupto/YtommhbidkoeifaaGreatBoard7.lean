/- The program's board: a step in which the board is held, or dead. -/
import Derived.Test.YtommhbidkoeifaaGreatBoard6
import Derived.Test.YtommhbidkoeifaaGreatBoard5
import Derived.Test.YtommhbidkoeifaaGreatBoardT
namespace Go.Proofs.YtommhbidkoeifaaGreat
open Go.RowKit
set_option linter.unusedVariables false

set_option maxRecDepth 100000 in
set_option maxHeartbeats 400000 in
theorem xwait_more {l : XL} {st : St} {ex : Ext} {w : World} (hr : XRep l st ex w) (h0 : 0 < st.left) (h4 : st.left ≤ 4) (h1 : ¬ st.left - 1 = 0) :
    Calls Tryz.prog 62 #[.pointer (some ⟨l.g, 0, none⟩)] w fun e w' => e = .returned (.tuple #[]) ∧ Went l { st with left := st.left - 1 } ex w w' := by
  have c1 := hr.c_left
  have f1 := hr.f_left
  have hb : (st.left - 1 == 0) = false := by simpa using h1
  have hr1 := hr.set_left (st.left - 1)
  have HR : Hid _ := hr1
  clear h1 hr1
  go_enter Tryz.func62, Tryz.ntmps62
  go_wp2
  (first | go_end0 | refine bodyPost_ret (results_none rfl _ _ _) rfl ?_)
  exact ⟨rfl, Went.mk HR.out ((Kept.refl _ _).g _ _)⟩

set_option maxRecDepth 100000 in
set_option maxHeartbeats 400000 in
theorem xwait_boot {l : XL} {st : St} {ex : Ext} {w : World} (hr : XRep l st ex w) (hd : DsOk ex.due) (n0 : 0 ≤ ex.now) (n1 : ex.now < 4611686018427387904) (b0 : ∀ i, 0 ≤ st.b0 i ∧ st.b0 i ≤ 255) (b1 : ∀ i, 0 ≤ st.b1 i ∧ st.b1 i ≤ 255) (h1 : st.left = 1) :
    Calls Tryz.prog 62 #[.pointer (some ⟨l.g, 0, none⟩)] w fun e w' => e = .returned (.tuple #[]) ∧ Went l (bootS { st with left := 0 }) (bootX ex) w w' := by
  have c1 := hr.c_left
  have f1 := hr.f_left
  rw [h1] at c1
  have HX : Hid _ := xboot_any (hr.set_left 0) hd n0 n1 b0 b1
  have k0 : Kept l.own w (w.setCell ⟨l.g, 18, none⟩ (.int .i64 0)) := (Kept.refl _ _).g _ _
  clear h1
  go_enter Tryz.func62, Tryz.ntmps62
  go_wp2_with fail
  refine Calls.mono HX.out ?_
  rintro e w1 ⟨rfl, went⟩
  have went2 := Went.before k0 went
  go_wp2
  (first | go_end0 | refine bodyPost_ret (results_none rfl _ _ _) rfl ?_)
  exact ⟨rfl, went2⟩

/-- A step's own variables: the board's pointer, the input, what is seen. -/
def stepW (w : World) (g : Nat) (rs : Bool) (v p : Int) : World := ((w.alloc (.cells #[.pointer (some ⟨g, 0, none⟩)] 90)).alloc (.cells #[.bool rs, .int .i64 v, .int .u8 p] 40)).alloc zc

/-- What is left of them. -/
structure Vars (w w1 : World) (g : Nat) (rs : Bool) (v p : Int) : Prop where
  b : w1.cell? ⟨w.heap.size, 0, none⟩ = some (.pointer (some ⟨g, 0, none⟩))
  i0 : w1.cell? ⟨w.heap.size + 1, 0, none⟩ = some (.bool rs)
  i1 : w1.cell? ⟨w.heap.size + 1, 1, none⟩ = some (.int .i64 v)
  i2 : w1.cell? ⟨w.heap.size + 1, 2, none⟩ = some (.int .u8 p)
  s : CyAt w1 (w.heap.size + 1 + 1) 0 0 0 0

theorem Vars.start (w : World) (g : Nat) (rs : Bool) (v p : Int) : Vars w (stepW w g rs v p) g rs v p := by
  have s1 : ∀ o, (w.alloc o).heap.size = w.heap.size + 1 := fun o => World.size_alloc _ _
  have s2 : ∀ o o', ((w.alloc o).alloc o').heap.size = w.heap.size + 1 + 1 := fun o o' => by rw [World.size_alloc, World.size_alloc]
  refine ⟨by unfold stepW zc; simp [go_sem], by unfold stepW zc; simp [go_sem], by unfold stepW zc; simp [go_sem], by unfold stepW zc; simp [go_sem], CyAt.of ?_⟩
  unfold stepW
  rw [← s2 _ _]
  exact heap_at _ zc

theorem Vars.kept {S : Nat → Prop} {w w1 w2 : World} {g : Nat} {rs : Bool} {v p : Int} (h : Vars w w1 g rs v p) (hk : Kept S w1 w2) (h0 : ¬ S w.heap.size) (h1 : ¬ S (w.heap.size + 1)) (h2 : ¬ S (w.heap.size + 1 + 1)) : Vars w w2 g rs v p := by
  have l0 := lt_of_cell h.b
  have l1 := lt_of_cell h.i0
  exact ⟨by rw [hk.cell l0 h0]; exact h.b, by rw [hk.cell l1 h1]; exact h.i0, by rw [hk.cell l1 h1]; exact h.i1, by rw [hk.cell l1 h1]; exact h.i2, h.s.kept hk h2⟩

/-- What stands in memory behind the supply was sensed. -/
theorem sense_supply (st : St) (rs : Bool) (v p : Int) : Alike (senseS st v) (st.supply ⟨rs, v, p⟩) ∧ (senseS st v).down = (st.supply ⟨rs, v, p⟩).down ∧ (senseS st v).left = st.left ∧ (senseS st v).bank = st.bank := by
  unfold Alike senseS St.supply
  by_cases h1 : v < 2700
  · rw [if_pos h1, if_pos h1]; exact ⟨rfl, rfl, rfl, rfl⟩
  · rw [if_neg h1, if_neg h1]
    by_cases h2 : 3000 ≤ v
    · rw [if_pos h2, if_pos h2]; exact ⟨rfl, rfl, rfl, rfl⟩
    · rw [if_neg h2, if_neg h2]; exact ⟨rfl, rfl, rfl, rfl⟩

theorem supply_same (st : St) (i : In) : (st.supply i).period = st.period ∧ (st.supply i).count = st.count ∧ (st.supply i).age = st.age ∧ (st.supply i).left = st.left ∧ (st.supply i).bank = st.bank ∧ (st.supply i).phase = st.phase ∧ (st.supply i).op = st.op ∧ (st.supply i).opd = st.opd ∧ (st.supply i).x = st.x ∧ (st.supply i).inp = i.port := by
  unfold St.supply
  split
  · exact ⟨rfl, rfl, rfl, rfl, rfl, rfl, rfl, rfl, rfl, rfl⟩
  split
  · exact ⟨rfl, rfl, rfl, rfl, rfl, rfl, rfl, rfl, rfl, rfl⟩
  · exact ⟨rfl, rfl, rfl, rfl, rfl, rfl, rfl, rfl, rfl, rfl⟩

theorem XRep.alike {l : XL} {s t : St} {ex : Ext} {w : World} (h : XRep l s ex w) (e : Alike s t) : XRep l t ex w := by
  have h2 := h.ghost t.op t.opd t.phase t.count t.age t.inp t.rst
  rw [← e] at h2
  exact h2

theorem XOk.supply {n : Nat} {st : St} {ex : Ext} (h : XOk n st ex) (i : In) : XOk n (st.supply i) ex := by
  obtain ⟨a1, a2, a3, a4, a5, a6, a7, a8, a9, _⟩ := supply_same st i
  refine ⟨h.clk.as rfl rfl rfl a1 a2 a3, h.dso, fun q1 q2 => ?_⟩
  have q := h.run (a4 ▸ q1) (a5 ▸ q2)
  exact ⟨q.clk.as rfl rfl rfl a1 a2 a3, by rw [a1]; exact q.due, q.ph.as a6 a7 a8 a9 rfl rfl rfl rfl, q.early⟩

end Go.Proofs.YtommhbidkoeifaaGreat
