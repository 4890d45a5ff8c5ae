/- The opening's list of steps with its inputs. -/
import Derived.Test.YtikdbpphbdbdnaaGreatStepDM
namespace Go.Proofs.YtikdbpphbdbdnaaGreat
open Go.RowKit
set_option linter.unusedVariables false

set_option maxRecDepth 100000 in
set_option maxHeartbeats 1000000 in
theorem opening_all (w : World) :
    Calls Tryz.prog 8 #[] w fun e w' => e = .returned (.slice (some ⟨w.heap.size + 3, 0, none⟩) 12 12) ∧ Below w.heap.size w w' ∧ w'.heap[w.heap.size + 3]? = some (.cells ((openingOps (w.heap.size + 1)).flatMap OpV.cells).toArray 36) ∧
      w'.heap[w.heap.size + 1]? = some (.cells #[.bool false, .int .i64 5000, .int .u8 7, .bool false, .int .i64 5000, .int .u8 7, .bool false, .int .i64 5000, .int .u8 7, .bool false, .int .i64 5000, .int .u8 7, .bool false, .int .i64 5000, .int .u8 7, .bool false, .int .i64 5000, .int .u8 7, .bool false, .int .i64 5000, .int .u8 7, .bool false, .int .i64 5000, .int .u8 7, .bool false, .int .i64 5000, .int .u8 7, .bool false, .int .i64 5000, .int .u8 7] 40) ∧ w'.heap[w.heap.size + 2]? = some (.cells #[.bool false, .int .i64 5000, .int .u8 7, .bool false, .int .i64 5000, .int .u8 7] 40) := by
  go_enter Tryz.func8, Tryz.ntmps8
  go_wp2
  go_ret
  have hs1 : ∀ (a : Obj), (w.alloc a).heap.size = w.heap.size + 1 := fun a => by simp
  have hs2 : ∀ (a b : Obj), ((w.alloc a).alloc b).heap.size = w.heap.size + 1 + 1 := fun a b => by simp
  have hs : ∀ (a b c : Obj), ((((w.alloc a).alloc b).alloc c)).heap.size = w.heap.size + 1 + 1 + 1 := fun a b c => by simp
  refine ⟨rfl, ?_, ?_, ?_, ?_⟩
  · exact ((((Below.refl _ w).alloc (Nat.le_refl _) _).alloc (by simp) _).alloc (by simp; omega) _).alloc (by simp; omega) _
  · rw [show w.heap.size + 3 = w.heap.size + 1 + 1 + 1 from rfl, ← hs _ _ _, heap_new]
    rfl
  · rw [Below.heap_alloc _ _ _ (by rw [hs]; omega), Below.heap_alloc _ _ _ (by rw [hs2]; omega), ← hs1 _, heap_new]
  · rw [Below.heap_alloc _ _ _ (by rw [hs]; omega), show w.heap.size + 2 = w.heap.size + 1 + 1 from rfl, ← hs2 _ _, heap_new]

/-- A list of steps with all that they lead to, in blocks of T. -/
def OpsIn (w : World) (T : Nat → Prop) (b off n : Nat) (os : Nat → OpV) : Prop :=
  T b ∧ b < w.heap.size ∧ ∀ i, i < n → OpOk w T (os i) ∧ ∀ j v, (os i).cells[j]? = some v → w.cell? ⟨b, off + i * 8 + j, none⟩ = some v

theorem OpsIn.kept {S T : Nat → Prop} {w w' : World} {b off n : Nat} {os : Nat → OpV} (h : OpsIn w T b off n os) (hk : Kept S w w') (hS : ∀ k, T k → ¬ S k) : OpsIn w' T b off n os :=
  ⟨h.1, Nat.lt_of_lt_of_le h.2.1 hk.size, fun i hi => ⟨(h.2.2 i hi).1.kept hk hS, fun j v hj => by rw [hk.cell h.2.1 (hS b h.1)]; exact (h.2.2 i hi).2 j v hj⟩⟩

theorem IsIns.mono {T T' : Nat → Prop} {w : World} {la : Option Addr} {ll : Nat} (h : IsIns w T la ll) (hT : ∀ k, T k → T' k) : IsIns w T' la ll := by
  rcases h with x | ⟨b1, off1, ha, hb, hc⟩
  · exact Or.inl x
  · exact Or.inr ⟨b1, off1, ha, hT b1 hb, hc⟩

theorem OpsIn.mono {T T' : Nat → Prop} {w : World} {b off n : Nat} {os : Nat → OpV} (h : OpsIn w T b off n os) (hT : ∀ k, T k → T' k) : OpsIn w T' b off n os :=
  ⟨hT b h.1, h.2.1, fun i hi => ⟨{ (h.2.2 i hi).1 with l := (h.2.2 i hi).1.l.mono hT }, (h.2.2 i hi).2⟩⟩

theorem OpsIn.at {T : Nat → Prop} {w : World} {b off n : Nat} {os : Nat → OpV} (h : OpsIn w T b off n os) (i : Nat) (hi : i < n) :
    w.cell? ⟨b, off + i * 8, none⟩ = some (.int .i64 (os i).k) ∧ w.cell? ⟨b, off + i * 8 + 1, none⟩ = some (.int .i64 (os i).a) ∧ w.cell? ⟨b, off + i * 8 + 2, none⟩ = some (.int .i64 (os i).b) ∧
    w.cell? ⟨b, off + i * 8 + 3, none⟩ = some (.string (os i).s) ∧ w.cell? ⟨b, off + i * 8 + 4, none⟩ = some (.string (os i).t) ∧ w.cell? ⟨b, off + i * 8 + 5, none⟩ = some (.int .i64 (os i).p) ∧
    w.cell? ⟨b, off + i * 8 + 6, none⟩ = some (.int .i64 (os i).q) ∧ w.cell? ⟨b, off + i * 8 + 7, none⟩ = some (.slice (os i).la (os i).ll (os i).lc) := by
  have hc := (h.2.2 i hi).2
  exact ⟨hc 0 _ rfl, hc 1 _ rfl, hc 2 _ rfl, hc 3 _ rfl, hc 4 _ rfl, hc 5 _ rfl, hc 6 _ rfl, hc 7 _ rfl⟩

theorem ins_row (w : World) (T : Nat → Prop) (b m : Nat) (cs : Array Value) (h : w.heap[b]? = some (.cells cs 40)) (hT : T b) (hc : ∀ i, i < m → cs[i * 3]? = some (.bool false) ∧ cs[i * 3 + 1]? = some (.int .i64 5000) ∧ cs[i * 3 + 2]? = some (.int .u8 7)) : IsIns w T (some ⟨b, 0, none⟩) m :=
  Or.inr ⟨b, 0, rfl, hT, (Array.getElem?_eq_some_iff.1 h).1, fun i hi => ⟨false, 5000, 7, by omega, by omega, by rw [Nat.zero_add, cell_in h]; exact (hc i hi).1, by rw [Nat.zero_add, cell_in h]; exact (hc i hi).2.1, by rw [Nat.zero_add, cell_in h]; exact (hc i hi).2.2⟩⟩

theorem opening_in (w : World) (T : Nat → Prop) (g : Nat) (hT : T (g + 2) ∧ T g ∧ T (g + 1)) (hh : w.heap[g + 2]? = some (.cells ((openingOps g).flatMap OpV.cells).toArray 36)) (h1 : w.heap[g]? = some (.cells #[.bool false, .int .i64 5000, .int .u8 7, .bool false, .int .i64 5000, .int .u8 7, .bool false, .int .i64 5000, .int .u8 7, .bool false, .int .i64 5000, .int .u8 7, .bool false, .int .i64 5000, .int .u8 7, .bool false, .int .i64 5000, .int .u8 7, .bool false, .int .i64 5000, .int .u8 7, .bool false, .int .i64 5000, .int .u8 7, .bool false, .int .i64 5000, .int .u8 7, .bool false, .int .i64 5000, .int .u8 7] 40)) (h2 : w.heap[g + 1]? = some (.cells #[.bool false, .int .i64 5000, .int .u8 7, .bool false, .int .i64 5000, .int .u8 7] 40)) : OpsIn w T (g + 2) 0 12 (opening g) := by
  have hops := opening_ops w g (g + 2) hh
  have l10 : IsIns w T (some ⟨g, 0, none⟩) 10 := ins_row w T g 10 _ h1 hT.2.1 (fun i hi => by
    have : i = 0 ∨ i = 1 ∨ i = 2 ∨ i = 3 ∨ i = 4 ∨ i = 5 ∨ i = 6 ∨ i = 7 ∨ i = 8 ∨ i = 9 := by omega
    rcases this with rfl | rfl | rfl | rfl | rfl | rfl | rfl | rfl | rfl | rfl <;> exact ⟨rfl, rfl, rfl⟩)
  have l2 : IsIns w T (some ⟨g + 1, 0, none⟩) 2 := ins_row w T (g + 1) 2 _ h2 hT.2.2 (fun i hi => by
    have : i = 0 ∨ i = 1 := by omega
    rcases this with rfl | rfl <;> exact ⟨rfl, rfl, rfl⟩)
  refine ⟨hT.1, (Array.getElem?_eq_some_iff.1 hh).1, fun i hi => ⟨?_, (hops i hi).2.2⟩⟩
  have hz : IsIns w T none 0 := Or.inl rfl
  have : i = 0 ∨ i = 1 ∨ i = 2 ∨ i = 3 ∨ i = 4 ∨ i = 5 ∨ i = 6 ∨ i = 7 ∨ i = 8 ∨ i = 9 ∨ i = 10 ∨ i = 11 := by omega
  have hs := (hops i hi).1
  have ht := (hops i hi).2.1
  have m10 : 10 ≤ 1048576 := by omega
  have m2 : 2 ≤ 1048576 := by omega
  rcases this with rfl | rfl | rfl | rfl | rfl | rfl | rfl | rfl | rfl | rfl | rfl | rfl
  all_goals
    refine ⟨hs, ht, ?_, ?_, ?_, ?_, ?_, ?_, ?_⟩
    · exact of_decide_eq_true rfl
    · exact of_decide_eq_true rfl
    · exact of_decide_eq_true rfl
    · exact of_decide_eq_true rfl
    · first | exact hz | exact l10 | exact l2
    · first | exact Nat.zero_le _ | exact m10 | exact m2
    · first | exact fun _ => rfl | exact fun x => nomatch x

end Go.Proofs.YtikdbpphbdbdnaaGreat
