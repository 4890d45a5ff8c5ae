/- The program's board: the banks of a new one. -/
import Derived.Test.YtommhbidkoeifaaGreatBoard13
import Derived.Laws.IdiomCopy
namespace Go.Proofs.YtommhbidkoeifaaGreat
open Go.RowKit
set_option linter.unusedVariables false

/-- A text's bytes, as cells. -/
def strs (s : ByteArray) : List Value := (s.data.map fun b => Value.int .u8 b.toNat).toList

theorem strs_length (s : ByteArray) : (strs s).length = s.size := by
  unfold strs
  simp

theorem strs_at (s : ByteArray) (j : Nat) (hj : j < s.size) : (strs s)[j]? = some (.int .u8 (byteAt s j)) := by
  have hj' : j < s.data.size := hj
  unfold strs byteAt
  simp only [Array.getElem?_toList, Array.getElem?_map, Array.getElem?_eq_getElem hj', List.getD, Option.map_some, Option.getD_some]

theorem strs_one (s : ByteArray) : ∀ v ∈ strs s, v.oneCell' = true := by
  intro v hv
  unfold strs at hv
  simp at hv
  obtain ⟨b, _, rfl⟩ := hv
  rfl

theorem run_copy_str (w : World) (ty : TypeId) (b o cap : Nat) (s : ByteArray) (hs : s.size = 64) (hc : ∀ j, j < 64 → (w.cell? ⟨b, o + j, none⟩).isSome = true) (hf : ∀ j, j < 64 → w.frozen? ⟨b, o + j, none⟩ = false) :
    (Builtin.copy_ #[72, 9] ty #[.slice (some ⟨b, o, none⟩) 64 cap, .string s]).run Tryz.prog w = .ok (goInt 64) (w.setCells b o (strs s)) := by
  have hl : (strs s).length = 64 := by rw [strs_length, hs]
  have hst := run_storeCells_cells (P := Tryz.prog) b o (strs s) 0 w (by rw [hl]; simpa using hc) (by rw [hl]; simpa using hf) (strs_one s)
  have hu : Tryz.prog.underlying 72 = some (.slice 5) := by kernel_rfl
  have hq : (Tryz.prog.info? 5).map (·.size) = some 1 := by kernel_rfl
  have he : s.extract 0 64 = s := by rw [← hs]; exact ByteArray.extract_zero_size
  cases hq2 : Tryz.prog.info? 5 with
  | none => simp [hq2] at hq
  | some i =>
    have hi : i.size = 1 := by simpa [hq2] using hq
    have hmin : Nat.min s.size 64 = 64 := by rw [hs]; rfl
    simp only [Nat.add_zero] at hst
    have hfc : (Builtin.firstCells 1 64 (.string s)).run Tryz.prog w = .ok (strs s).toArray w := by
      simp only [Builtin.firstCells, he]
      rfl
    simp [Builtin.copy_, run_underlying hu, Builtin.lenOf, sizeOf, typeInfo, hq2, hi, hmin, hfc, hst]

/-- The cells of banks of which nothing is set. -/
def zeroK : Array Value := (Array.replicate 128 (Value.int .u8 0)) ++ #[.int .i64 0, .int .i64 0, .int .i64 0]

theorem run_zeroK (w : World) : (zeroValue 146).run Tryz.prog w = .ok (.agg zeroK) w := by kernel_rfl

theorem zeroK_size : zeroK.size = 131 := by kernel_rfl

set_option maxRecDepth 100000 in
set_option maxHeartbeats 2000000 in
theorem xnewBanks_ok (a b : ByteArray) (w : World) (h : a.size = 64) (h2 : b.size = 64) :
    Calls Tryz.prog 52 #[.string a, .string b] w fun e w' => e = .returned (.pointer (some ⟨w.heap.size, 0, none⟩)) ∧ w' = ((w.alloc (.cells (zeroK.setIfInBounds 130 (.int .i64 (-1))) 146)).setCells w.heap.size 0 (strs a)).setCells w.heap.size 64 (strs b) := by
  have hz := run_zeroK
  have hzs := zeroK_size
  have g0 : (w.alloc (.cells (zeroK.setIfInBounds 130 (.int .i64 (-1))) 146)).heap[w.heap.size]? = some (.cells (zeroK.setIfInBounds 130 (.int .i64 (-1))) 146) := heap_at _ _
  have q0 : ∀ j, j < 131 → ((w.alloc (.cells (zeroK.setIfInBounds 130 (.int .i64 (-1))) 146)).cell? ⟨w.heap.size, j, none⟩).isSome = true := fun j hj => by
    simp only [World.cell?, g0]
    simp [hzs]
    omega
  have q1 : ∀ j, (w.alloc (.cells (zeroK.setIfInBounds 130 (.int .i64 (-1))) 146)).frozen? ⟨w.heap.size, j, none⟩ = false := fun j => by
    simp only [World.frozen?, g0]
    simp
  have hl : (strs a).length = 64 := by rw [strs_length, h]
  have c1 := run_copy_str (w.alloc (.cells (zeroK.setIfInBounds 130 (.int .i64 (-1))) 146)) 3 w.heap.size 0 64 a h (fun j hj => by rw [Nat.zero_add]; exact q0 j (by omega)) (fun j hj => q1 _)
  have c2 := run_copy_str ((w.alloc (.cells (zeroK.setIfInBounds 130 (.int .i64 (-1))) 146)).setCells w.heap.size 0 (strs a)) 3 w.heap.size 64 64 b h2 (fun j hj => by rw [World.cell?_setCells_out _ _ _ _ _ (fun _ _ => Or.inr (by rw [hl]; show 0 + 64 ≤ 64 + j; omega))]; exact q0 _ (by omega)) (fun j hj => by rw [World.frozen?_setCells]; exact q1 _)
  clear g0 q0 q1 hl
  go_enter Tryz.func52, Tryz.ntmps52
  go_wp2
  refine bodyPost_ret (v := .pointer (some ⟨w.heap.size, 0, none⟩)) (by simp [results, Tryz.results52, go_sem]) rfl ⟨rfl, rfl⟩

theorem zK128 : (zeroK.setIfInBounds 130 (Value.int .i64 (-1)))[128]? = some (.int .i64 0) := by kernel_rfl
theorem zK129 : (zeroK.setIfInBounds 130 (Value.int .i64 (-1)))[129]? = some (.int .i64 0) := by kernel_rfl
theorem zK130 : (zeroK.setIfInBounds 130 (Value.int .i64 (-1)))[130]? = some (.int .i64 (-1)) := by kernel_rfl

/-- The banks of a new board. -/
theorem newBanks_raw (a b : ByteArray) (w : World) (h : a.size = 64) (h2 : b.size = 64) (l : XL) (ex : Ext) :
    Raw w.heap.size 131 (encbk l (newSt a b) ex) (((w.alloc (.cells (zeroK.setIfInBounds 130 (.int .i64 (-1))) 146)).setCells w.heap.size 0 (strs a)).setCells w.heap.size 64 (strs b)) := by
  have hzs := zeroK_size
  have g0 : (w.alloc (.cells (zeroK.setIfInBounds 130 (.int .i64 (-1))) 146)).heap[w.heap.size]? = some (.cells (zeroK.setIfInBounds 130 (.int .i64 (-1))) 146) := heap_at _ _
  have q0 : ∀ j, j < 131 → ((w.alloc (.cells (zeroK.setIfInBounds 130 (.int .i64 (-1))) 146)).cell? ⟨w.heap.size, j, none⟩).isSome = true := fun j hj => by
    simp only [World.cell?, g0]
    simp [hzs]
    omega
  have q1 : ∀ j, (w.alloc (.cells (zeroK.setIfInBounds 130 (.int .i64 (-1))) 146)).frozen? ⟨w.heap.size, j, none⟩ = false := fun j => by
    simp only [World.frozen?, g0]
    simp
  have la : (strs a).length = 64 := by rw [strs_length, h]
  have lb : (strs b).length = 64 := by rw [strs_length, h2]
  refine fun i hi => ⟨?_, by rw [World.frozen?_setCells, World.frozen?_setCells]; exact q1 i⟩
  by_cases h64 : i < 64
  · have e1 : encbk l (newSt a b) ex i = .int .u8 (byteAt a i) := by
      unfold encbk
      split <;> first | omega | (rw [if_pos h64]; rfl)
    have e2 := World.cell?_setCells_in w.heap.size (strs a) 0 (w.alloc (.cells (zeroK.setIfInBounds 130 (.int .i64 (-1))) 146)) (fun j hj => by rw [Nat.zero_add]; exact q0 j (by omega)) i (by omega)
    rw [Nat.zero_add] at e2
    have e3 := strs_at a i (by omega)
    rw [List.getElem?_eq_getElem (by omega)] at e3
    rw [e1, World.cell?_setCells_out _ _ _ _ _ (fun _ _ => Or.inl h64), e2]
    exact e3
  · by_cases h128 : i < 128
    · have e1 : encbk l (newSt a b) ex i = .int .u8 (byteAt b (i - 64)) := by
        unfold encbk
        split <;> first | omega | (rw [if_neg h64]; rfl)
      have e2 := World.cell?_setCells_in w.heap.size (strs b) 64 ((w.alloc (.cells (zeroK.setIfInBounds 130 (.int .i64 (-1))) 146)).setCells w.heap.size 0 (strs a)) (fun j hj => by rw [World.cell?_setCells_out _ _ _ _ _ (fun _ _ => Or.inr (by rw [la]; show 0 + 64 ≤ 64 + j; omega))]; exact q0 _ (by omega)) (i - 64) (by omega)
      rw [show 64 + (i - 64) = i by omega] at e2
      have e3 := strs_at b (i - 64) (by omega)
      rw [List.getElem?_eq_getElem (by omega)] at e3
      rw [e1, e2]
      exact e3
    · rw [World.cell?_setCells_out _ _ _ _ _ (fun _ _ => Or.inr (by rw [lb]; show 64 + 64 ≤ i; omega)), World.cell?_setCells_out _ _ _ _ _ (fun _ _ => Or.inr (by rw [la]; show 0 + 64 ≤ i; omega))]
      simp only [World.cell?, g0]
      have h3 : i = 128 ∨ i = 129 ∨ i = 130 := by omega
      rcases h3 with rfl | rfl | rfl
      · exact zK128
      · exact zK129
      · exact zK130

theorem setCells_kept {S : Nat → Prop} {a : World} (b : Nat) (hb : S b ∨ a.heap.size ≤ b) : ∀ (vs : List Value) (o : Nat) (w : World), Kept S a w → Kept S a (w.setCells b o vs)
  | [], _, _, h => h
  | v :: r, o, w, h => setCells_kept b hb r (o + 1) _ (h.setCell hb v)

theorem setCells_size (b : Nat) : ∀ (vs : List Value) (o : Nat) (w : World), (w.setCells b o vs).heap.size = w.heap.size
  | [], _, _ => rfl
  | v :: r, o, w => (setCells_size b r (o + 1) _).trans (by simp)

/-- The world behind New. -/
noncomputable def newW (w w1 : World) (g : Nat) : World := (((((((((w1.alloc (.cells #[.pointer (some ⟨w.heap.size, 0, none⟩), .int .u8 0, .int .i64 0, .bool false] 116)).alloc (.cells #[.pointer (some ⟨w.heap.size, 0, none⟩), .int .i64 0, .int .u8 0, .bool false, .bool false, .bool false] 119)).alloc (.cells #[.int .u8 0, .int .u8 0] 122)).alloc (.cells #[.pointer (some ⟨w.heap.size + 1, 0, none⟩), .bool false, .int .u8 0] 125)).alloc (.cells #[.int .i64 1, .pointer (some ⟨w.heap.size + 1, 0, none⟩)] 128)).alloc (.cells #[.int .u8 0, .int .u8 0, .int .u8 0, .bool false, .bool false, .int .i64 0, .int .u8 0, .int .u8 0, .bool false, .slice none 0 0, .pointer (some ⟨w.heap.size, 0, none⟩), .pointer (some ⟨w.heap.size + 1, 0, none⟩), .pointer (some ⟨w1.heap.size, 0, none⟩), .pointer (some ⟨w1.heap.size + 1, 0, none⟩), .pointer (some ⟨w1.heap.size + 1 + 1, 0, none⟩), .pointer (some ⟨w1.heap.size + 1 + 1 + 1, 0, none⟩), .pointer (some ⟨w1.heap.size + 1 + 1 + 1 + 1, 0, none⟩), .bool false, .int .i64 4] 135)).setCell ⟨g, 9, none⟩ (.slice (some ⟨g + 1 + 1, 0, none⟩) 7 7)).alloc (.cells Tryz.zeroCells137 137)).alloc (.cells #[.int .u8 0, .int .u8 127, .iface 136 (.pointer (some ⟨g + 1, 0, none⟩)), .int .u8 128, .int .u8 191, .iface 143 (.agg #[.pointer (some ⟨w.heap.size + 1, 0, none⟩)]), .int .u8 192, .int .u8 194, .iface 114 (.pointer (some ⟨w1.heap.size, 0, none⟩)), .int .u8 195, .int .u8 196, .iface 117 (.pointer (some ⟨w1.heap.size + 1, 0, none⟩)), .int .u8 197, .int .u8 198, .iface 120 (.pointer (some ⟨w1.heap.size + 1 + 1, 0, none⟩)), .int .u8 199, .int .u8 201, .iface 123 (.pointer (some ⟨w1.heap.size + 1 + 1 + 1, 0, none⟩)), .int .u8 202, .int .u8 203, .iface 126 (.pointer (some ⟨w1.heap.size + 1 + 1 + 1 + 1, 0, none⟩))] 141))

end Go.Proofs.YtommhbidkoeifaaGreat
