/- The document's board: New. -/
import Derived.Test.YtommhbidkoeifaaGreatRef11
namespace Go.Proofs.YtommhbidkoeifaaGreat
open Go.RowKit
set_option linter.unusedVariables false

set_option maxRecDepth 100000 in
set_option maxHeartbeats 1000000 in
theorem Rnew_no1 (a b : ByteArray) (w : World) (h : ¬ a.size = 64) :
    Calls Tryz.prog 26 #[.string a, .string b] w fun e w' => e = .returned (.tuple #[.pointer none, .int .i64 1]) ∧ w' = w := by
  have h' : ((a.size : Int) != 64) = true := by rw [bne_iff_ne]; omega
  go_enter Tryz.func26, Tryz.ntmps26
  go_wp2
  go_ret2
  exact ⟨rfl, rfl⟩

set_option maxRecDepth 100000 in
set_option maxHeartbeats 1000000 in
theorem Rnew_no2 (a b : ByteArray) (w : World) (h : a.size = 64) (h2 : ¬ b.size = 64) :
    Calls Tryz.prog 26 #[.string a, .string b] w fun e w' => e = .returned (.tuple #[.pointer none, .int .i64 1]) ∧ w' = w := by
  have h' : ((b.size : Int) != 64) = true := by rw [bne_iff_ne]; omega
  go_enter Tryz.func26, Tryz.ntmps26
  go_wp2
  go_ret2
  exact ⟨rfl, rfl⟩

/-- The cells of a board of which nothing is set. -/
def zeroF : Nat → Value
  | 128 => .slice none 0 0
  | 129 => .slice none 0 0
  | 135 => .bool false
  | 139 => .bool false
  | 140 => .bool false
  | 146 => .bool false
  | 149 => .bool false
  | 150 => .bool false
  | 151 => .int .u8 0
  | 152 => .int .u8 0
  | 153 => .bool false
  | i => if i < 128 then .int .u8 0 else .int .i64 0

def zeroB : Array Value := ((List.range 156).map zeroF).toArray

theorem run_zero (w : World) : (zeroValue 98).run Tryz.prog w = .ok (.agg zeroB) w := by kernel_rfl

theorem zeroB_size : zeroB.size = 156 := by
  show (List.toArray _).size = 156
  rw [List.size_toArray]
  simp only [List.length_map, List.length_range]

theorem zeroB_at (i : Nat) (hi : i < 156) : zeroB[i]? = some (zeroF i) := by
  unfold zeroB
  rw [List.getElem?_toArray, List.getElem?_map, List.getElem?_range hi]
  rfl

/-- The cells of a new board (P, Q: its banks). -/
theorem new_cells (P Q : Value) (i : Nat) (hi : i < 156) :
    ((((((zeroB.setIfInBounds 130 (.int .i64 (-1))).setIfInBounds 133 (.int .i64 1)).setIfInBounds 134 (.int .i64 4)).setIfInBounds 128 P).setIfInBounds 129 Q))[i]? = some (if i = 129 then Q else if i = 128 then P else if i = 134 then .int .i64 4 else if i = 133 then .int .i64 1 else if i = 130 then .int .i64 (-1) else zeroF i) := by
  have hz := zeroB_size
  have hq := zeroB_at i hi
  simp only [Array.getElem?_setIfInBounds, Array.size_setIfInBounds, hz, hq]
  by_cases e1 : i = 129
  · subst e1; simp
  by_cases e2 : i = 128
  · subst e2; simp
  by_cases e3 : i = 134
  · subst e3; simp
  by_cases e4 : i = 133
  · subst e4; simp
  by_cases e5 : i = 130
  · subst e5; simp
  · simp [e1, e2, e3, e4, e5, Ne.symm e1, Ne.symm e2, Ne.symm e3, Ne.symm e4, Ne.symm e5]

theorem new_enc (L : Lay) (a b : ByteArray) (i : Nat) (hi : i < 156) :
    (if i = 129 then Value.slice (some ⟨L.q, 0, none⟩) 64 L.cq else if i = 128 then Value.slice (some ⟨L.p, 0, none⟩) 64 L.cp else if i = 134 then Value.int .i64 4 else if i = 133 then Value.int .i64 1 else if i = 130 then Value.int .i64 (-1) else zeroF i) = encF L (newSt a b) i := by
  by_cases h : i < 128
  · rw [if_neg (by omega), if_neg (by omega), if_neg (by omega), if_neg (by omega), if_neg (by omega)]
    have e1 : encF L (newSt a b) i = .int .u8 0 := by
      unfold encF
      split <;> first | omega | rfl
    have e2 : zeroF i = .int .u8 0 := by
      unfold zeroF
      split <;> first | omega | (rw [if_pos h])
    rw [e1, e2]
  · have h2 : i = 128 ∨ i = 129 ∨ i = 130 ∨ i = 131 ∨ i = 132 ∨ i = 133 ∨ i = 134 ∨ i = 135 ∨ i = 136 ∨ i = 137 ∨ i = 138 ∨ i = 139 ∨ i = 140 ∨ i = 141 ∨ i = 142 ∨ i = 143 ∨ i = 144 ∨ i = 145 ∨ i = 146 ∨ i = 147 ∨ i = 148 ∨ i = 149 ∨ i = 150 ∨ i = 151 ∨ i = 152 ∨ i = 153 ∨ i = 154 ∨ i = 155 := by omega
    rcases h2 with rfl | rfl | rfl | rfl | rfl | rfl | rfl | rfl | rfl | rfl | rfl | rfl | rfl | rfl | rfl | rfl | rfl | rfl | rfl | rfl | rfl | rfl | rfl | rfl | rfl | rfl | rfl | rfl
    all_goals rfl

theorem row_at (s : ByteArray) (c j : Nat) (hj : j < s.size) : (bytesRow s c)[j]? = some (.int .u8 (byteAt s j)) := by
  have hj' : j < s.data.size := hj
  unfold bytesRow byteAt
  rw [Array.getElem?_append_left (by simpa using hj')]
  simp only [Array.getElem?_map, Array.getElem?_eq_getElem hj', List.getD, Array.getElem?_toList, Option.map_some, Option.getD_some]

theorem row_size (s : ByteArray) (c : Nat) : s.size ≤ (bytesRow s c).size := by
  unfold bytesRow
  simp

theorem new_rep (w : World) (a b : ByteArray) (h : a.size = 64) (h2 : b.size = 64) (c1 c2 : Nat) :
    Rep ⟨w.heap.size, w.heap.size + 1, w.heap.size + 1 + 1, c1, c2⟩ (newSt a b) (((w.alloc (.cells ((((((zeroB.setIfInBounds 130 (.int .i64 (-1))).setIfInBounds 133 (.int .i64 1)).setIfInBounds 134 (.int .i64 4)).setIfInBounds 128 (.slice (some ⟨w.heap.size + 1, 0, none⟩) 64 c1)).setIfInBounds 129 (.slice (some ⟨w.heap.size + 1 + 1, 0, none⟩) 64 c2))) 98)).alloc (.cells (bytesRow a c1) 5 ((bytesRow a c1).size, (bytesRow a c1).size + 1))).alloc (.cells (bytesRow b c2) 5 ((bytesRow b c2).size, (bytesRow b c2).size + 1))) := by
  have s1 : ∀ o, (w.alloc o).heap.size = w.heap.size + 1 := fun o => World.size_alloc _ _
  have s2 : ∀ o o', ((w.alloc o).alloc o').heap.size = w.heap.size + 1 + 1 := fun o o' => by rw [World.size_alloc, World.size_alloc]
  have g0 : ∀ o o' o'', (((w.alloc o).alloc o').alloc o'').heap[w.heap.size]? = some o := fun o o' o'' => by
    rw [Below.heap_alloc _ _ _ (by rw [s2]; omega), Below.heap_alloc _ _ _ (by rw [s1]; omega), heap_new]
  have g1 : ∀ o o' o'', (((w.alloc o).alloc o').alloc o'').heap[w.heap.size + 1]? = some o' := fun o o' o'' => by
    rw [Below.heap_alloc _ _ _ (by rw [s2]; omega), ← s1 o, heap_new]
  have g2 : ∀ o o' o'', (((w.alloc o).alloc o').alloc o'').heap[w.heap.size + 1 + 1]? = some o'' := fun o o' o'' => by
    rw [← s2 o o', heap_new]
  refine ⟨fun i hi => ⟨?_, ?_⟩, fun i hi => ⟨?_, ?_⟩, fun i hi => ⟨?_, ?_⟩, by show ¬ _; simp, by show ¬ _; simp; omega, by show ¬ _; simp⟩
  · simp only [World.cell?, g0]
    rw [if_neg (by simp), new_cells _ _ i hi]
    exact congrArg some (new_enc ⟨w.heap.size, w.heap.size + 1, w.heap.size + 1 + 1, c1, c2⟩ a b i hi)
  · simp [World.frozen?, g0]
  · simp only [World.cell?, g1]
    rw [if_neg (by simp), row_at a c1 i (by omega)]
    rfl
  · simp only [World.frozen?, g1]
    have := row_size a c1
    simp
    omega
  · simp only [World.cell?, g2]
    rw [if_neg (by simp), row_at b c2 i (by omega)]
    rfl
  · simp only [World.frozen?, g2]
    have := row_size b c2
    simp
    omega

set_option maxRecDepth 100000 in
set_option maxHeartbeats 1000000 in
theorem Rnew_ok (a b : ByteArray) (w : World) (h : a.size = 64) (h2 : b.size = 64) :
    Calls Tryz.prog 26 #[.string a, .string b] w fun e w' => ∃ L : Lay, e = .returned (.tuple #[.pointer (some ⟨L.g, 0, none⟩), .int .i64 0]) ∧ Rep L (newSt a b) w' ∧ Below w.heap.size w w' ∧ w.heap.size ≤ L.g ∧ w.heap.size ≤ L.p ∧ w.heap.size ≤ L.q := by
  have hz := run_zero
  have hzs := zeroB_size
  have q128 : zeroB[128]? = some (.slice none 0 0) := zeroB_at 128 (by omega)
  have q129 : zeroB[129]? = some (.slice none 0 0) := zeroB_at 129 (by omega)
  have hcv := fun W s => run_bytes_of_string (P := Tryz.prog) W 9 72 5 s Tryz.underlying9 Tryz.underlying72 Tryz.underlying5
  go_enter Tryz.func26, Tryz.ntmps26
  go_wp2
  go_ret2
  refine ⟨⟨w.heap.size, w.heap.size + 1, w.heap.size + 1 + 1, _, _⟩, rfl, (new_rep w a b h h2 _ _).drew.drew, ?_, Nat.le_refl _, ?_, ?_⟩
  · exact ((((Below.refl _ w).alloc (Nat.le_refl _) _).alloc (by simp) _).alloc (by simp; omega) _).drew.drew
  · show w.heap.size ≤ w.heap.size + 1
    omega
  · show w.heap.size ≤ w.heap.size + 1 + 1
    omega

end Go.Proofs.YtommhbidkoeifaaGreat
