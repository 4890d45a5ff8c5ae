/- The program's processor: its registers and what an instruction does. -/
import Derived.Test.YtommhbidkoeifaaGreatXRep
namespace Go.Proofs.YtommhbidkoeifaaGreat
open Go.RowKit
set_option linter.unusedVariables false

/-- What cycles an instruction takes: 0: none; 1: Fetch; 2: Operand too; 3: and Read; 4: and Write. -/
def shapeN (op : Int) : Int :=
  if op = 0 ∨ op = 11 ∨ op = 12 ∨ op = 13 ∨ op = 14 ∨ op = 24 then 1
  else if op = 1 ∨ (16 ≤ op ∧ op ≤ 20) then 2
  else if op = 3 ∨ op = 10 then 4
  else if 2 ≤ op ∧ op ≤ 9 then 3
  else 0

set_option maxRecDepth 100000 in
set_option maxHeartbeats 400000 in
theorem zshape_any (op : Int) (w : World) (h0 : 0 ≤ op) :
    Calls Tryz.prog 96 #[.int .u8 op] w fun e w' => e = .returned (.int .i64 (shapeN op)) ∧ w' = w := by
  by_cases hbig : 24 < op
  · have HF : Hid (shapeN op = 0) := by
      unfold shapeN Hid
      rw [if_neg (by omega), if_neg (by omega), if_neg (by omega), if_neg (by omega)]
    have b : ∀ k : Int, k ≤ 24 → (op == k) = false := fun k hk => beq_eq_false_iff_ne.2 (by omega)
    have b0 := b 0 (by omega)
    have b1 := b 1 (by omega)
    have b2 := b 2 (by omega)
    have b3 := b 3 (by omega)
    have b4 := b 4 (by omega)
    have b5 := b 5 (by omega)
    have b6 := b 6 (by omega)
    have b7 := b 7 (by omega)
    have b8 := b 8 (by omega)
    have b9 := b 9 (by omega)
    have b10 := b 10 (by omega)
    have b11 := b 11 (by omega)
    have b12 := b 12 (by omega)
    have b13 := b 13 (by omega)
    have b14 := b 14 (by omega)
    have b16 := b 16 (by omega)
    have b17 := b 17 (by omega)
    have b18 := b 18 (by omega)
    have b19 := b 19 (by omega)
    have b20 := b 20 (by omega)
    have b24 := b 24 (by omega)
    clear b
    go_enter Tryz.func96, Tryz.ntmps96
    go_wp2
    go_ret
    exact ⟨ret_int HF.out.symm, rfl⟩
  · have h : op = 0 ∨ op = 1 ∨ op = 2 ∨ op = 3 ∨ op = 4 ∨ op = 5 ∨ op = 6 ∨ op = 7 ∨ op = 8 ∨ op = 9 ∨ op = 10 ∨ op = 11 ∨ op = 12 ∨ op = 13 ∨ op = 14 ∨ op = 15 ∨ op = 16 ∨ op = 17 ∨ op = 18 ∨ op = 19 ∨ op = 20 ∨ op = 21 ∨ op = 22 ∨ op = 23 ∨ op = 24 := by omega
    rcases h with rfl | rfl | rfl | rfl | rfl | rfl | rfl | rfl | rfl | rfl | rfl | rfl | rfl | rfl | rfl | rfl | rfl | rfl | rfl | rfl | rfl | rfl | rfl | rfl | rfl
    all_goals
      go_enter Tryz.func96, Tryz.ntmps96
      go_wp2
      go_ret
      exact ⟨rfl, rfl⟩

/-- Is X added? -/
def indexedB (op : Int) : Bool := op == 9 || op == 10

set_option maxHeartbeats 400000 in
theorem zindexed_any (op : Int) (w : World) :
    Calls Tryz.prog 98 #[.int .u8 op] w fun e w' => e = .returned (.bool (indexedB op)) ∧ w' = w := by
  have HF : Hid (indexedB op = (op == 9 || op == 10)) := rfl
  go_enter Tryz.func98, Tryz.ntmps98
  cases h9 : (op == 9)
  · go_wp2
    go_ret
    refine ⟨ret_bool ?_, rfl⟩
    rw [HF.out, h9]; rfl
  · go_wp2
    go_ret
    refine ⟨ret_bool ?_, rfl⟩
    rw [HF.out, h9]; rfl

set_option maxHeartbeats 400000 in
theorem zsetA_any {l : XL} {st : St} {ex : Ext} {w : World} (hr : XRep l st ex w) (v : Int) (h0 : 0 ≤ v) (h1 : v ≤ 255) :
    Calls Tryz.prog 105 #[.pointer (some ⟨l.g, 0, none⟩), .int .u8 v] w fun e w' => e = .returned (.tuple #[]) ∧ XRep l (st.setA v) ex w' ∧ Kept l.own w w' := by
  have HF : Hid (st.setA v = { st with a := v, zero := (v == 0) }) := by simp [Hid, St.setA, Int.emod_eq_of_lt h0 (show v < 256 by omega)]
  have c1 := hr.c_a
  have f1 := hr.f_a
  have c2 := hr.c_zero
  have f2 := hr.f_zero
  go_enter Tryz.func105, Tryz.ntmps105
  go_wp2
  (first | go_end0 | refine bodyPost_ret (results_none rfl _ _ _) rfl ?_)
  exact ⟨rfl, ((hr.set_a _).set_zero _).as HF.out.symm rfl, ((Kept.refl _ _).g _ _).g _ _⟩

set_option maxHeartbeats 400000 in
theorem zsetX_any {l : XL} {st : St} {ex : Ext} {w : World} (hr : XRep l st ex w) (v : Int) (h0 : 0 ≤ v) (h1 : v ≤ 255) :
    Calls Tryz.prog 107 #[.pointer (some ⟨l.g, 0, none⟩), .int .u8 v] w fun e w' => e = .returned (.tuple #[]) ∧ XRep l (st.setX v) ex w' ∧ Kept l.own w w' := by
  have HF : Hid (st.setX v = { st with x := v, zero := (v == 0) }) := by simp [Hid, St.setX, Int.emod_eq_of_lt h0 (show v < 256 by omega)]
  have c1 := hr.c_x
  have f1 := hr.f_x
  have c2 := hr.c_zero
  have f2 := hr.f_zero
  go_enter Tryz.func107, Tryz.ntmps107
  go_wp2
  (first | go_end0 | refine bodyPost_ret (results_none rfl _ _ _) rfl ?_)
  exact ⟨rfl, ((hr.set_x _).set_zero _).as HF.out.symm rfl, ((Kept.refl _ _).g _ _).g _ _⟩

end Go.Proofs.YtommhbidkoeifaaGreat
