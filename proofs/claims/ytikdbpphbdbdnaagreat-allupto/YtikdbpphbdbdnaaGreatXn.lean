/- Of several texts, one behind the other. -/
import Derived.Test.YtikdbpphbdbdnaaGreatXa
import Derived.Laws.IdiomCopy
/- The program's board: the banks of a new one. -/
namespace Go.Proofs.YtikdbpphbdbdnaaGreat
open Go.RowKit
set_option linter.unusedVariables false

theorem heap_newN (w : World) (o : Obj) : (w.alloc o).heap[w.heap.size]? = some o := by
  unfold World.alloc
  simp only [Array.getElem?_push_size]

/-- A text's bytes, as cells. -/
def strs (s : ByteArray) : List Value := (s.data.map fun b => Value.int .u8 b.toNat).toList

theorem strs_length (s : ByteArray) : (strs s).length = s.size := by
  unfold strs
  simp

theorem strs_at (s : ByteArray) (j : Nat) (hj : j < s.size) : (strs s)[j]? = some (.int .u8 (byteAt s j)) := by
  have hj' : j < s.data.size := hj
  unfold strs byteAt
  simp only [Array.getElem?_toList, Array.getElem?_map, Array.getElem?_eq_getElem hj', List.getD, Option.map_some, Option.getD_some]

theorem strs_one (s : ByteArray) : ∀ v ∈ strs s, v.oneCell' = true := by
  intro v hv
  unfold strs at hv
  simp at hv
  obtain ⟨b, _, rfl⟩ := hv
  rfl

theorem run_copy_str (w : World) (ty : TypeId) (b o cap : Nat) (s : ByteArray) (hs : s.size = 64) (hc : ∀ j, j < 64 → (w.cell? ⟨b, o + j, none⟩).isSome = true) (hf : ∀ j, j < 64 → w.frozen? ⟨b, o + j, none⟩ = false) :
    (Builtin.copy_ #[72, 9] ty #[.slice (some ⟨b, o, none⟩) 64 cap, .string s]).run Tryz.prog w = .ok (goInt 64) (w.setCells b o (strs s)) := by
  have hl : (strs s).length = 64 := by rw [strs_length, hs]
  have hst := run_storeCells_cells (P := Tryz.prog) b o (strs s) 0 w (by rw [hl]; simpa using hc) (by rw [hl]; simpa using hf) (strs_one s)
  have hu : Tryz.prog.underlying 72 = some (.slice 5) := by kernel_rfl
  have hq : (Tryz.prog.info? 5).map (·.size) = some 1 := by kernel_rfl
  have he : s.extract 0 64 = s := by rw [← hs]; exact ByteArray.extract_zero_size
  cases hq2 : Tryz.prog.info? 5 with
  | none => simp [hq2] at hq
  | some i =>
    have hi : i.size = 1 := by simpa [hq2] using hq
    have hmin : Nat.min s.size 64 = 64 := by rw [hs]; rfl
    simp only [Nat.add_zero] at hst
    have hfc : (Builtin.firstCells 1 64 (.string s)).run Tryz.prog w = .ok (strs s).toArray w := by
      simp only [Builtin.firstCells, he]
      rfl
    simp [Builtin.copy_, run_underlying hu, Builtin.lenOf, sizeOf, typeInfo, hq2, hi, hmin, hfc, hst]

/-- The cells of banks of which nothing is set. -/
def zeroK : Array Value := (Array.replicate 128 (Value.int .u8 0)) ++ #[.int .i64 0, .int .i64 0, .int .i64 0]

theorem run_zeroK (w : World) : (zeroValue 146).run Tryz.prog w = .ok (.agg zeroK) w := by kernel_rfl

theorem zeroK_size : zeroK.size = 131 := by kernel_rfl

set_option maxRecDepth 100000 in
set_option maxHeartbeats 2000000 in
theorem xnewBanks_ok (a b : ByteArray) (w : World) (h : a.size = 64) (h2 : b.size = 64) :
    Calls Tryz.prog 57 #[.string a, .string b] w fun e w' => e = .returned (.pointer (some ⟨w.heap.size, 0, none⟩)) ∧ w' = ((w.alloc (.cells (zeroK.setIfInBounds 130 (.int .i64 (-1))) 146)).setCells w.heap.size 0 (strs a)).setCells w.heap.size 64 (strs b) := by
  have hz := run_zeroK
  have hzs := zeroK_size
  have g0 : (w.alloc (.cells (zeroK.setIfInBounds 130 (.int .i64 (-1))) 146)).heap[w.heap.size]? = some (.cells (zeroK.setIfInBounds 130 (.int .i64 (-1))) 146) := heap_newN _ _
  have q0 : ∀ j, j < 131 → ((w.alloc (.cells (zeroK.setIfInBounds 130 (.int .i64 (-1))) 146)).cell? ⟨w.heap.size, j, none⟩).isSome = true := fun j hj => by
    simp only [World.cell?, g0]
    simp [hzs]
    omega
  have q1 : ∀ j, (w.alloc (.cells (zeroK.setIfInBounds 130 (.int .i64 (-1))) 146)).frozen? ⟨w.heap.size, j, none⟩ = false := fun j => by
    simp only [World.frozen?, g0]
    simp
  have hl : (strs a).length = 64 := by rw [strs_length, h]
  have c1 := run_copy_str (w.alloc (.cells (zeroK.setIfInBounds 130 (.int .i64 (-1))) 146)) 3 w.heap.size 0 64 a h (fun j hj => by rw [Nat.zero_add]; exact q0 j (by omega)) (fun j hj => q1 _)
  have c2 := run_copy_str ((w.alloc (.cells (zeroK.setIfInBounds 130 (.int .i64 (-1))) 146)).setCells w.heap.size 0 (strs a)) 3 w.heap.size 64 64 b h2 (fun j hj => by rw [World.cell?_setCells_out _ _ _ _ _ (fun _ _ => Or.inr (by rw [hl]; show 0 + 64 ≤ 64 + j; omega))]; exact q0 _ (by omega)) (fun j hj => by rw [World.frozen?_setCells]; exact q1 _)
  clear g0 q0 q1 hl
  go_enter Tryz.func57, Tryz.ntmps57
  go_wp2
  refine bodyPost_ret (v := .pointer (some ⟨w.heap.size, 0, none⟩)) (by simp [results, Tryz.results57, go_sem]) rfl ⟨rfl, rfl⟩

theorem zK128 : (zeroK.setIfInBounds 130 (Value.int .i64 (-1)))[128]? = some (.int .i64 0) := by kernel_rfl
theorem zK129 : (zeroK.setIfInBounds 130 (Value.int .i64 (-1)))[129]? = some (.int .i64 0) := by kernel_rfl
theorem zK130 : (zeroK.setIfInBounds 130 (Value.int .i64 (-1)))[130]? = some (.int .i64 (-1)) := by kernel_rfl

/-- The banks of a new board. -/
theorem newBanks_raw (a b : ByteArray) (w : World) (h : a.size = 64) (h2 : b.size = 64) (l : XL) (ex : Ext) :
    Raw w.heap.size 131 (encbk l (newSt a b) ex) (((w.alloc (.cells (zeroK.setIfInBounds 130 (.int .i64 (-1))) 146)).setCells w.heap.size 0 (strs a)).setCells w.heap.size 64 (strs b)) := by
  have hzs := zeroK_size
  have g0 : (w.alloc (.cells (zeroK.setIfInBounds 130 (.int .i64 (-1))) 146)).heap[w.heap.size]? = some (.cells (zeroK.setIfInBounds 130 (.int .i64 (-1))) 146) := heap_newN _ _
  have q0 : ∀ j, j < 131 → ((w.alloc (.cells (zeroK.setIfInBounds 130 (.int .i64 (-1))) 146)).cell? ⟨w.heap.size, j, none⟩).isSome = true := fun j hj => by
    simp only [World.cell?, g0]
    simp [hzs]
    omega
  have q1 : ∀ j, (w.alloc (.cells (zeroK.setIfInBounds 130 (.int .i64 (-1))) 146)).frozen? ⟨w.heap.size, j, none⟩ = false := fun j => by
    simp only [World.frozen?, g0]
    simp
  have la : (strs a).length = 64 := by rw [strs_length, h]
  have lb : (strs b).length = 64 := by rw [strs_length, h2]
  refine fun i hi => ⟨?_, by rw [World.frozen?_setCells, World.frozen?_setCells]; exact q1 i⟩
  by_cases h64 : i < 64
  · have e1 : encbk l (newSt a b) ex i = .int .u8 (byteAt a i) := by
      unfold encbk
      split <;> first | omega | (rw [if_pos h64]; rfl)
    have e2 := World.cell?_setCells_in w.heap.size (strs a) 0 (w.alloc (.cells (zeroK.setIfInBounds 130 (.int .i64 (-1))) 146)) (fun j hj => by rw [Nat.zero_add]; exact q0 j (by omega)) i (by omega)
    rw [Nat.zero_add] at e2
    have e3 := strs_at a i (by omega)
    rw [List.getElem?_eq_getElem (by omega)] at e3
    rw [e1, World.cell?_setCells_out _ _ _ _ _ (fun _ _ => Or.inl h64), e2]
    exact e3
  · by_cases h128 : i < 128
    · have e1 : encbk l (newSt a b) ex i = .int .u8 (byteAt b (i - 64)) := by
        unfold encbk
        split <;> first | omega | (rw [if_neg h64]; rfl)
      have e2 := World.cell?_setCells_in w.heap.size (strs b) 64 ((w.alloc (.cells (zeroK.setIfInBounds 130 (.int .i64 (-1))) 146)).setCells w.heap.size 0 (strs a)) (fun j hj => by rw [World.cell?_setCells_out _ _ _ _ _ (fun _ _ => Or.inr (by rw [la]; show 0 + 64 ≤ 64 + j; omega))]; exact q0 _ (by omega)) (i - 64) (by omega)
      rw [show 64 + (i - 64) = i by omega] at e2
      have e3 := strs_at b (i - 64) (by omega)
      rw [List.getElem?_eq_getElem (by omega)] at e3
      rw [e1, e2]
      exact e3
    · rw [World.cell?_setCells_out _ _ _ _ _ (fun _ _ => Or.inr (by rw [lb]; show 64 + 64 ≤ i; omega)), World.cell?_setCells_out _ _ _ _ _ (fun _ _ => Or.inr (by rw [la]; show 0 + 64 ≤ i; omega))]
      simp only [World.cell?, g0]
      have h3 : i = 128 ∨ i = 129 ∨ i = 130 := by omega
      rcases h3 with rfl | rfl | rfl
      · exact zK128
      · exact zK129
      · exact zK130

theorem setCells_kept {S : Nat → Prop} {a : World} (b : Nat) (hb : S b ∨ a.heap.size ≤ b) : ∀ (vs : List Value) (o : Nat) (w : World), Kept S a w → Kept S a (w.setCells b o vs)
  | [], _, _, h => h
  | v :: r, o, w, h => setCells_kept b hb r (o + 1) _ (h.setCell hb v)

theorem setCells_size (b : Nat) : ∀ (vs : List Value) (o : Nat) (w : World), (w.setCells b o vs).heap.size = w.heap.size
  | [], _, _ => rfl
  | v :: r, o, w => (setCells_size b r (o + 1) _).trans (by simp)

/-- The world behind New. -/
noncomputable def newW (w w1 : World) (g : Nat) : World := ((((((((w1.alloc (.cells Tryz.zeroCells115 115)).alloc (.cells #[.pointer (some ⟨w.heap.size, 0, none⟩), .int .u8 0, .int .i64 0, .bool false] 118)).alloc (.cells #[.pointer (some ⟨w.heap.size, 0, none⟩), .int .i64 0, .int .u8 0, .bool false, .bool false, .bool false] 121)).alloc (.cells #[.int .u8 0, .int .u8 0] 124)).alloc (.cells #[.pointer (some ⟨w.heap.size + 1, 0, none⟩), .bool false, .int .u8 0] 127)).alloc (.cells #[.int .i64 1, .pointer (some ⟨w.heap.size + 1, 0, none⟩)] 130)).alloc (.cells #[.int .u8 0, .int .u8 0, .int .u8 0, .bool false, .bool false, .int .i64 0, .int .u8 0, .int .u8 0, .bool false, .slice none 0 0, .pointer (some ⟨w.heap.size, 0, none⟩), .pointer (some ⟨w.heap.size + 1, 0, none⟩), .pointer (some ⟨w1.heap.size, 0, none⟩), .pointer (some ⟨w1.heap.size + 1, 0, none⟩), .pointer (some ⟨w1.heap.size + 1 + 1, 0, none⟩), .pointer (some ⟨w1.heap.size + 1 + 1 + 1, 0, none⟩), .pointer (some ⟨w1.heap.size + 1 + 1 + 1 + 1, 0, none⟩), .pointer (some ⟨w1.heap.size + 1 + 1 + 1 + 1 + 1, 0, none⟩), .bool false, .int .i64 4] 137)).setCell ⟨g, 9, none⟩ (.slice (some ⟨g + 1, 0, none⟩) 7 7)).alloc (.cells #[.int .u8 0, .int .u8 127, .iface 114 (.pointer (some ⟨w1.heap.size, 0, none⟩)), .int .u8 128, .int .u8 191, .iface 143 (.agg #[.pointer (some ⟨w.heap.size + 1, 0, none⟩)]), .int .u8 192, .int .u8 194, .iface 116 (.pointer (some ⟨w1.heap.size + 1, 0, none⟩)), .int .u8 195, .int .u8 196, .iface 119 (.pointer (some ⟨w1.heap.size + 1 + 1, 0, none⟩)), .int .u8 197, .int .u8 198, .iface 122 (.pointer (some ⟨w1.heap.size + 1 + 1 + 1, 0, none⟩)), .int .u8 199, .int .u8 201, .iface 125 (.pointer (some ⟨w1.heap.size + 1 + 1 + 1 + 1, 0, none⟩)), .int .u8 202, .int .u8 203, .iface 128 (.pointer (some ⟨w1.heap.size + 1 + 1 + 1 + 1 + 1, 0, none⟩))] 141)

end Go.Proofs.YtikdbpphbdbdnaaGreat

/- The program's board: New. -/
namespace Go.Proofs.YtikdbpphbdbdnaaGreat
open Go.RowKit
set_option linter.unusedVariables false

set_option maxRecDepth 100000 in
set_option maxHeartbeats 1000000 in
theorem xNew_no1 (a b : ByteArray) (w : World) (h : ¬ a.size = 64) :
    Calls Tryz.prog 46 #[.string a, .string b] w fun e w' => e = .returned (.tuple #[.pointer none, .int .i64 1]) ∧ w' = w := by
  have h' : ((a.size : Int) != 64) = true := by rw [bne_iff_ne]; omega
  go_enter Tryz.func46, Tryz.ntmps46
  go_wp2
  go_ret2
  exact ⟨rfl, rfl⟩

set_option maxRecDepth 100000 in
set_option maxHeartbeats 1000000 in
theorem xNew_no2 (a b : ByteArray) (w : World) (h : a.size = 64) (h2 : ¬ b.size = 64) :
    Calls Tryz.prog 46 #[.string a, .string b] w fun e w' => e = .returned (.tuple #[.pointer none, .int .i64 1]) ∧ w' = w := by
  have h' : ((b.size : Int) != 64) = true := by rw [bne_iff_ne]; omega
  go_enter Tryz.func46, Tryz.ntmps46
  go_wp2
  go_ret2
  exact ⟨rfl, rfl⟩

theorem xNew_no (a b : ByteArray) (w : World) (h : ¬ (a.size = 64 ∧ b.size = 64)) :
    Calls Tryz.prog 46 #[.string a, .string b] w fun e w' => e = .returned (.tuple #[.pointer none, .int .i64 1]) ∧ w' = w := by
  by_cases h1 : a.size = 64
  · exact xNew_no2 a b w h1 (fun x => h ⟨h1, x⟩)
  · exact xNew_no1 a b w h1

set_option maxRecDepth 100000 in
set_option maxHeartbeats 2000000 in
theorem xNew_ok (a b : ByteArray) (w : World) (h : a.size = 64) (h2 : b.size = 64) :
    Calls Tryz.prog 46 #[.string a, .string b] w fun e w' => ∃ w1, Hid (w1 = (((w.alloc (.cells #[.int .i64 0, .slice none 0 0] 111)).alloc (.cells (zeroK.setIfInBounds 130 (.int .i64 (-1))) 146)).setCells (w.heap.size + 1) 0 (strs a)).setCells (w.heap.size + 1) 64 (strs b)) ∧ e = .returned (.tuple #[.pointer (some ⟨w1.heap.size + 1 + 1 + 1 + 1 + 1 + 1, 0, none⟩), .int .i64 0]) ∧ Hid (Still (newW w w1 (w1.heap.size + 1 + 1 + 1 + 1 + 1 + 1)) w' ∧ w'.heap.size = w.heap.size + 10) := by
  go_enter Tryz.func46, Tryz.ntmps46
  go_wp2_with (go_at_call 57; refine (xnewBanks_ok a b _ h h2).mono ?_; rintro e w1 ⟨rfl, hw1⟩; replace hw1 : Hid _ := hw1)
  obtain ⟨g, hg⟩ : ∃ g, g = w1.heap.size + 1 + 1 + 1 + 1 + 1 + 1 := ⟨_, rfl⟩
  obtain ⟨W0, hW0⟩ : ∃ W0, W0 = (((((((w1.alloc (.cells Tryz.zeroCells115 115)).alloc (.cells #[.pointer (some ⟨w.heap.size, 0, none⟩), .int .u8 0, .int .i64 0, .bool false] 118)).alloc (.cells #[.pointer (some ⟨w.heap.size, 0, none⟩), .int .i64 0, .int .u8 0, .bool false, .bool false, .bool false] 121)).alloc (.cells #[.int .u8 0, .int .u8 0] 124)).alloc (.cells #[.pointer (some ⟨w.heap.size + 1, 0, none⟩), .bool false, .int .u8 0] 127)).alloc (.cells #[.int .i64 1, .pointer (some ⟨w.heap.size + 1, 0, none⟩)] 130)).alloc (.cells #[.int .u8 0, .int .u8 0, .int .u8 0, .bool false, .bool false, .int .i64 0, .int .u8 0, .int .u8 0, .bool false, .slice none 0 0, .pointer (some ⟨w.heap.size, 0, none⟩), .pointer (some ⟨w.heap.size + 1, 0, none⟩), .pointer (some ⟨w1.heap.size, 0, none⟩), .pointer (some ⟨w1.heap.size + 1, 0, none⟩), .pointer (some ⟨w1.heap.size + 1 + 1, 0, none⟩), .pointer (some ⟨w1.heap.size + 1 + 1 + 1, 0, none⟩), .pointer (some ⟨w1.heap.size + 1 + 1 + 1 + 1, 0, none⟩), .pointer (some ⟨w1.heap.size + 1 + 1 + 1 + 1 + 1, 0, none⟩), .bool false, .int .i64 4] 137)) := ⟨_, rfl⟩
  rw [← hW0]
  rw [← hg]
  have hgl : W0.heap.size = g + 1 := by rw [hW0, hg]; simp
  have hgl2 : g < W0.heap.size := by omega
  have CS : W0.cell? ⟨g, 12, none⟩ = some (.pointer (some ⟨w1.heap.size, 0, none⟩)) ∧ W0.cell? ⟨g, 13, none⟩ = some (.pointer (some ⟨w1.heap.size + 1, 0, none⟩)) ∧ W0.cell? ⟨g, 14, none⟩ = some (.pointer (some ⟨w1.heap.size + 1 + 1, 0, none⟩)) ∧ W0.cell? ⟨g, 15, none⟩ = some (.pointer (some ⟨w1.heap.size + 1 + 1 + 1, 0, none⟩)) ∧ W0.cell? ⟨g, 16, none⟩ = some (.pointer (some ⟨w1.heap.size + 1 + 1 + 1 + 1, 0, none⟩)) ∧ W0.cell? ⟨g, 17, none⟩ = some (.pointer (some ⟨w1.heap.size + 1 + 1 + 1 + 1 + 1, 0, none⟩)) := by
    rw [hW0, hg]
    refine ⟨?_, ?_, ?_, ?_, ?_, ?_⟩ <;> simp [go_sem]
  obtain ⟨c12, c13, c14, c15, c16, c17⟩ := CS
  have c9 : W0.cell? ⟨g, 9, none⟩ = some (.slice none 0 0) ∧ W0.frozen? ⟨g, 9, none⟩ = false := by
    rw [hW0, hg]
    refine ⟨?_, ?_⟩ <;> simp [go_sem]
  obtain ⟨c9, f9⟩ := c9
  have HG : Hid (g = w1.heap.size + 1 + 1 + 1 + 1 + 1 + 1) := hg
  have HW : Hid (W0 = (((((((w1.alloc (.cells Tryz.zeroCells115 115)).alloc (.cells #[.pointer (some ⟨w.heap.size, 0, none⟩), .int .u8 0, .int .i64 0, .bool false] 118)).alloc (.cells #[.pointer (some ⟨w.heap.size, 0, none⟩), .int .i64 0, .int .u8 0, .bool false, .bool false, .bool false] 121)).alloc (.cells #[.int .u8 0, .int .u8 0] 124)).alloc (.cells #[.pointer (some ⟨w.heap.size + 1, 0, none⟩), .bool false, .int .u8 0] 127)).alloc (.cells #[.int .i64 1, .pointer (some ⟨w.heap.size + 1, 0, none⟩)] 130)).alloc (.cells #[.int .u8 0, .int .u8 0, .int .u8 0, .bool false, .bool false, .int .i64 0, .int .u8 0, .int .u8 0, .bool false, .slice none 0 0, .pointer (some ⟨w.heap.size, 0, none⟩), .pointer (some ⟨w.heap.size + 1, 0, none⟩), .pointer (some ⟨w1.heap.size, 0, none⟩), .pointer (some ⟨w1.heap.size + 1, 0, none⟩), .pointer (some ⟨w1.heap.size + 1 + 1, 0, none⟩), .pointer (some ⟨w1.heap.size + 1 + 1 + 1, 0, none⟩), .pointer (some ⟨w1.heap.size + 1 + 1 + 1 + 1, 0, none⟩), .pointer (some ⟨w1.heap.size + 1 + 1 + 1 + 1 + 1, 0, none⟩), .bool false, .int .i64 4] 137))) := hW0
  have h12 := World.new_ne W0 ⟨g, 12, none⟩ c12
  have HS0 : ∀ (o : Obj) (v : Value), ((W0.setCell ⟨g, 9, none⟩ v).alloc o).cell? ⟨g, 12, none⟩ = some (.pointer (some ⟨w1.heap.size, 0, none⟩)) ∧ ((W0.setCell ⟨g, 9, none⟩ v).alloc o).cell? ⟨g, 13, none⟩ = some (.pointer (some ⟨w1.heap.size + 1, 0, none⟩)) ∧ ((W0.setCell ⟨g, 9, none⟩ v).alloc o).cell? ⟨g, 14, none⟩ = some (.pointer (some ⟨w1.heap.size + 1 + 1, 0, none⟩)) ∧ ((W0.setCell ⟨g, 9, none⟩ v).alloc o).cell? ⟨g, 15, none⟩ = some (.pointer (some ⟨w1.heap.size + 1 + 1 + 1, 0, none⟩)) ∧ ((W0.setCell ⟨g, 9, none⟩ v).alloc o).cell? ⟨g, 16, none⟩ = some (.pointer (some ⟨w1.heap.size + 1 + 1 + 1 + 1, 0, none⟩)) ∧ ((W0.setCell ⟨g, 9, none⟩ v).alloc o).cell? ⟨g, 17, none⟩ = some (.pointer (some ⟨w1.heap.size + 1 + 1 + 1 + 1 + 1, 0, none⟩)) := by
    intro o v
    have q1 : g < (W0.setCell ⟨g, 9, none⟩ v).heap.size := by simp [hgl]
    refine ⟨?_, ?_, ?_, ?_, ?_, ?_⟩
    · rw [World.cell?_alloc_past _ _ _ q1, World.cell?_setCell_other _ _ _ _ (by simp)]; exact c12
    · rw [World.cell?_alloc_past _ _ _ q1, World.cell?_setCell_other _ _ _ _ (by simp)]; exact c13
    · rw [World.cell?_alloc_past _ _ _ q1, World.cell?_setCell_other _ _ _ _ (by simp)]; exact c14
    · rw [World.cell?_alloc_past _ _ _ q1, World.cell?_setCell_other _ _ _ _ (by simp)]; exact c15
    · rw [World.cell?_alloc_past _ _ _ q1, World.cell?_setCell_other _ _ _ _ (by simp)]; exact c16
    · rw [World.cell?_alloc_past _ _ _ q1, World.cell?_setCell_other _ _ _ _ (by simp)]; exact c17
  have HS : Hid (∀ (o : Obj) (v : Value), ((W0.setCell ⟨g, 9, none⟩ v).alloc o).drew.cell? ⟨g, 12, none⟩ = some (.pointer (some ⟨w1.heap.size, 0, none⟩)) ∧ ((W0.setCell ⟨g, 9, none⟩ v).alloc o).drew.cell? ⟨g, 13, none⟩ = some (.pointer (some ⟨w1.heap.size + 1, 0, none⟩)) ∧ ((W0.setCell ⟨g, 9, none⟩ v).alloc o).drew.cell? ⟨g, 14, none⟩ = some (.pointer (some ⟨w1.heap.size + 1 + 1, 0, none⟩)) ∧ ((W0.setCell ⟨g, 9, none⟩ v).alloc o).drew.cell? ⟨g, 15, none⟩ = some (.pointer (some ⟨w1.heap.size + 1 + 1 + 1, 0, none⟩)) ∧ ((W0.setCell ⟨g, 9, none⟩ v).alloc o).drew.cell? ⟨g, 16, none⟩ = some (.pointer (some ⟨w1.heap.size + 1 + 1 + 1 + 1, 0, none⟩)) ∧ ((W0.setCell ⟨g, 9, none⟩ v).alloc o).drew.cell? ⟨g, 17, none⟩ = some (.pointer (some ⟨w1.heap.size + 1 + 1 + 1 + 1 + 1, 0, none⟩))) := fun o v => HS0 o v
  clear HS0
  clear hg hW0
  go_region_held3 (fun W => W.cell? ⟨g, 12, none⟩ = some (.pointer (some ⟨w1.heap.size, 0, none⟩)) ∧ W.cell? ⟨g, 13, none⟩ = some (.pointer (some ⟨w1.heap.size + 1, 0, none⟩)) ∧ W.cell? ⟨g, 14, none⟩ = some (.pointer (some ⟨w1.heap.size + 1 + 1, 0, none⟩)) ∧ W.cell? ⟨g, 15, none⟩ = some (.pointer (some ⟨w1.heap.size + 1 + 1 + 1, 0, none⟩)) ∧ W.cell? ⟨g, 16, none⟩ = some (.pointer (some ⟨w1.heap.size + 1 + 1 + 1 + 1, 0, none⟩)) ∧ W.cell? ⟨g, 17, none⟩ = some (.pointer (some ⟨w1.heap.size + 1 + 1 + 1 + 1 + 1, 0, none⟩))) (first | (with_reducible exact HS.out _ _) | go_keep) (fail)
  go_wp2
  go_ret2
  refine ⟨w1, ?_, ?_, ?_⟩
  · have e1 := hw1.out
    rw [World.size_alloc] at e1
    exact e1
  · rw [HG.out]
    try rfl
  · have e2 := HG.out
    have e3 := HW.out
    have z1 : w1.heap.size = w.heap.size + 2 := by rw [hw1.out, setCells_size, setCells_size, World.size_alloc, World.size_alloc]
    refine ⟨?_, ?_⟩
    · unfold newW
      rw [← e2, ← e3]
      exact (Kept.refl _ _).drew
    · show (World.alloc _ _).heap.size = _
      rw [World.size_alloc]
      simp [hgl]
      omega

end Go.Proofs.YtikdbpphbdbdnaaGreat

/- The program's board: what New leaves. -/
namespace Go.Proofs.YtikdbpphbdbdnaaGreat
open Go.RowKit
set_option linter.unusedVariables false

theorem raw_new (w : World) (c : Array Value) (t : TypeId) (n : Nat) (F : Nat → Value) (hc : ∀ i, i < n → c[i]? = some (F i)) : Raw w.heap.size n F (w.alloc (.cells c t)) := fun i hi => by
  have g0 : (w.alloc (.cells c t)).heap[w.heap.size]? = some (.cells c t) := heap_newN _ _
  refine ⟨?_, ?_⟩
  · simp only [World.cell?, g0]
    rw [if_neg (by simp)]
    exact hc i hi
  · simp only [World.frozen?, g0]
    simp

theorem zeroM : Tryz.zeroCells115 = Array.replicate 128 (.int .u8 0) := by kernel_rfl

def newX : Ext := ⟨0, 0, 0, [], 0, 0, 0, false, false, 0⟩

def newL (b : Nat) : XL := { nb := b + 10, g := b + 8, bs := b + 9, ck := b, bk := b + 1, tm := b + 3, wa := b + 4, po := b + 5, up := b + 6, re := b + 7, me := b + 2, q := none, cap := 0 }

theorem newL_own (b k : Nat) (h : (newL b).own k) : b ≤ k := by
  rcases h with ⟨j, hj, rfl⟩ | h
  · rcases eleven hj with rfl | rfl | rfl | rfl | rfl | rfl | rfl | rfl | rfl | rfl | rfl <;> simp only [newL, XL.blk] <;> omega
  · cases h

theorem newL_inj (b i j : Nat) (hi : i < 11) (hj : j < 11) (h : (newL b).blk i = (newL b).blk j) : i = j := by
  rcases eleven hi with rfl | rfl | rfl | rfl | rfl | rfl | rfl | rfl | rfl | rfl | rfl <;>
    rcases eleven hj with rfl | rfl | rfl | rfl | rfl | rfl | rfl | rfl | rfl | rfl | rfl <;>
    first | rfl | (exfalso; simp only [newL, XL.blk] at h; omega)

theorem Raw.same {g g' n : Nat} {F : Nat → Value} {w : World} (h : Raw g n F w) (e : g = g') : Raw g' n F w := e ▸ h

set_option maxRecDepth 100000 in
set_option maxHeartbeats 1000000 in
theorem new_xrep (a b : ByteArray) (w w1 w9 : World) (h : a.size = 64) (h2 : b.size = 64) (W : World) (t : TypeId)
    (hW : W = w.alloc (.cells #[.int .i64 0, .slice none 0 0] 111))
    (h1 : w1 = ((W.alloc (.cells (zeroK.setIfInBounds 130 (.int .i64 (-1))) 146)).setCells W.heap.size 0 (strs a)).setCells W.heap.size 64 (strs b))
    (h9 : Still (newW w w1 (w1.heap.size + 1 + 1 + 1 + 1 + 1 + 1)) w9) (hs9 : w9.heap.size = w.heap.size + 10) :
    XRep (newL w.heap.size) (newSt a b) newX (w9.alloc (.cells #[.pointer (some ⟨w.heap.size + 8, 0, none⟩)] t)) ∧ Kept (fun _ => False) w (w9.alloc (.cells #[.pointer (some ⟨w.heap.size + 8, 0, none⟩)] t)) := by
  have zW : W.heap.size = w.heap.size + 1 := by rw [hW, World.size_alloc]
  have rck : Raw w.heap.size 2 (encck (newL w.heap.size) (newSt a b) newX) W := by
    rw [hW]
    refine raw_new w _ _ 2 _ fun i hi => ?_
    rcases (by omega : i = 0 ∨ i = 1) with rfl | rfl <;> rfl
  have kW : Kept (fun _ => False) w W := by rw [hW]; exact (Kept.refl _ _).alloc _
  have z1 : w1.heap.size = w.heap.size + 2 := by rw [h1, setCells_size, setCells_size, World.size_alloc, zW]
  have rbk : Raw (w.heap.size + 1) 131 (encbk (newL w.heap.size) (newSt a b) newX) w1 := by
    rw [h1, ← zW]
    exact newBanks_raw a b W h h2 _ _
  have k1 : Kept (fun _ => False) W w1 := by
    rw [h1]
    exact setCells_kept _ (Or.inr (Nat.le_refl _)) _ _ _ (setCells_kept _ (Or.inr (Nat.le_refl _)) _ _ _ ((Kept.refl _ _).alloc _))
  clear h1 hW
  unfold newW at h9
  rw [z1] at h9
  obtain ⟨W2, e2⟩ : ∃ W, W = w1.alloc (.cells Tryz.zeroCells115 115) := ⟨_, rfl⟩
  rw [← e2] at h9
  have z2 : W2.heap.size = w.heap.size + 3 := by rw [e2, World.size_alloc, z1]
  have k2 : Kept (fun _ => False) w1 W2 := by rw [e2]; exact (Kept.refl _ _).alloc _
  have rme : Raw (w.heap.size + 2) 128 (encme (newL w.heap.size) (newSt a b) newX) W2 := by
    rw [e2, zeroM]
    refine (raw_new w1 _ _ 128 _ fun i hi => ?_).same z1
    rw [Array.getElem?_replicate, if_pos hi]
    rfl
  obtain ⟨W3, e3⟩ : ∃ W, W = W2.alloc (.cells #[.pointer (some ⟨w.heap.size, 0, none⟩), .int .u8 0, .int .i64 0, .bool false] 118) := ⟨_, rfl⟩
  rw [← e3] at h9
  have z3 : W3.heap.size = w.heap.size + 4 := by rw [e3, World.size_alloc, z2]
  have k3 : Kept (fun _ => False) W2 W3 := by rw [e3]; exact (Kept.refl _ _).alloc _
  have rtm : Raw (w.heap.size + 3) 4 (enctm (newL w.heap.size) (newSt a b) newX) W3 := by
    rw [e3]
    refine (raw_new W2 _ _ 4 _ fun i hi => ?_).same z2
    rcases (by omega : i = 0 ∨ i = 1 ∨ i = 2 ∨ i = 3) with rfl | rfl | rfl | rfl <;> rfl
  obtain ⟨W4, e4⟩ : ∃ W, W = W3.alloc (.cells #[.pointer (some ⟨w.heap.size, 0, none⟩), .int .i64 0, .int .u8 0, .bool false, .bool false, .bool false] 121) := ⟨_, rfl⟩
  rw [← e4] at h9
  have z4 : W4.heap.size = w.heap.size + 5 := by rw [e4, World.size_alloc, z3]
  have k4 : Kept (fun _ => False) W3 W4 := by rw [e4]; exact (Kept.refl _ _).alloc _
  have rwa : Raw (w.heap.size + 4) 6 (encwa (newL w.heap.size) (newSt a b) newX) W4 := by
    rw [e4]
    refine (raw_new W3 _ _ 6 _ fun i hi => ?_).same z3
    rcases (by omega : i = 0 ∨ i = 1 ∨ i = 2 ∨ i = 3 ∨ i = 4 ∨ i = 5) with rfl | rfl | rfl | rfl | rfl | rfl <;> rfl
  obtain ⟨W5, e5⟩ : ∃ W, W = W4.alloc (.cells #[.int .u8 0, .int .u8 0] 124) := ⟨_, rfl⟩
  rw [← e5] at h9
  have z5 : W5.heap.size = w.heap.size + 6 := by rw [e5, World.size_alloc, z4]
  have k5 : Kept (fun _ => False) W4 W5 := by rw [e5]; exact (Kept.refl _ _).alloc _
  have rpo : Raw (w.heap.size + 5) 2 (encpo (newL w.heap.size) (newSt a b) newX) W5 := by
    rw [e5]
    refine (raw_new W4 _ _ 2 _ fun i hi => ?_).same z4
    rcases (by omega : i = 0 ∨ i = 1) with rfl | rfl <;> rfl
  obtain ⟨W6, e6⟩ : ∃ W, W = W5.alloc (.cells #[.pointer (some ⟨w.heap.size + 1, 0, none⟩), .bool false, .int .u8 0] 127) := ⟨_, rfl⟩
  rw [← e6] at h9
  have z6 : W6.heap.size = w.heap.size + 7 := by rw [e6, World.size_alloc, z5]
  have k6 : Kept (fun _ => False) W5 W6 := by rw [e6]; exact (Kept.refl _ _).alloc _
  have rup : Raw (w.heap.size + 6) 3 (encup (newL w.heap.size) (newSt a b) newX) W6 := by
    rw [e6]
    refine (raw_new W5 _ _ 3 _ fun i hi => ?_).same z5
    rcases (by omega : i = 0 ∨ i = 1 ∨ i = 2) with rfl | rfl | rfl <;> rfl
  obtain ⟨W7, e7⟩ : ∃ W, W = W6.alloc (.cells #[.int .i64 1, .pointer (some ⟨w.heap.size + 1, 0, none⟩)] 130) := ⟨_, rfl⟩
  rw [← e7] at h9
  have z7 : W7.heap.size = w.heap.size + 8 := by rw [e7, World.size_alloc, z6]
  have k7 : Kept (fun _ => False) W6 W7 := by rw [e7]; exact (Kept.refl _ _).alloc _
  have rre : Raw (w.heap.size + 7) 2 (encre (newL w.heap.size) (newSt a b) newX) W7 := by
    rw [e7]
    refine (raw_new W6 _ _ 2 _ fun i hi => ?_).same z6
    rcases (by omega : i = 0 ∨ i = 1) with rfl | rfl <;> rfl
  obtain ⟨W8, e8⟩ : ∃ W, W = W7.alloc (.cells #[.int .u8 0, .int .u8 0, .int .u8 0, .bool false, .bool false, .int .i64 0, .int .u8 0, .int .u8 0, .bool false, .slice none 0 0, .pointer (some ⟨w.heap.size, 0, none⟩), .pointer (some ⟨w.heap.size + 1, 0, none⟩), .pointer (some ⟨w.heap.size + 2, 0, none⟩), .pointer (some ⟨w.heap.size + 2 + 1, 0, none⟩), .pointer (some ⟨w.heap.size + 2 + 1 + 1, 0, none⟩), .pointer (some ⟨w.heap.size + 2 + 1 + 1 + 1, 0, none⟩), .pointer (some ⟨w.heap.size + 2 + 1 + 1 + 1 + 1, 0, none⟩), .pointer (some ⟨w.heap.size + 2 + 1 + 1 + 1 + 1 + 1, 0, none⟩), .bool false, .int .i64 4] 137) := ⟨_, rfl⟩
  rw [← e8] at h9
  have z8 : W8.heap.size = w.heap.size + 9 := by rw [e8, World.size_alloc, z7]
  have k8 : Kept (fun _ => False) W7 W8 := by rw [e8]; exact (Kept.refl _ _).alloc _
  have rg : Raw (w.heap.size + 8) 20 ((fun i => if i = 9 then .slice none 0 0 else encg (newL w.heap.size) (newSt a b) newX i)) W8 := by
    rw [e8]
    refine (raw_new W7 _ _ 20 _ fun i hi => ?_).same z7
    rcases (by omega : i = 0 ∨ i = 1 ∨ i = 2 ∨ i = 3 ∨ i = 4 ∨ i = 5 ∨ i = 6 ∨ i = 7 ∨ i = 8 ∨ i = 9 ∨ i = 10 ∨ i = 11 ∨ i = 12 ∨ i = 13 ∨ i = 14 ∨ i = 15 ∨ i = 16 ∨ i = 17 ∨ i = 18 ∨ i = 19) with rfl | rfl | rfl | rfl | rfl | rfl | rfl | rfl | rfl | rfl | rfl | rfl | rfl | rfl | rfl | rfl | rfl | rfl | rfl | rfl <;> rfl
  obtain ⟨V0, e20⟩ : ∃ W, W = W8.setCell ⟨w.heap.size + 2 + 1 + 1 + 1 + 1 + 1 + 1, 9, none⟩ (.slice (some ⟨w.heap.size + 2 + 1 + 1 + 1 + 1 + 1 + 1 + 1, 0, none⟩) 7 7) := ⟨_, rfl⟩
  rw [← e20] at h9
  have z20 : V0.heap.size = w.heap.size + 9 := by rw [e20]; simp [z8]
  have k20 : Kept (fun k => k = w.heap.size + 8) W8 V0 := by rw [e20]; exact (Kept.refl (fun k => k = w.heap.size + 8) W8).setCell (b := w.heap.size + 2 + 1 + 1 + 1 + 1 + 1 + 1) (Or.inl rfl) _
  have rg : Raw (w.heap.size + 8) 20 (encg (newL w.heap.size) (newSt a b) newX) V0 := by
    rw [e20]
    refine Raw.set (k := 9) rg (by omega) _ fun i hi => ?_
    by_cases e : i = 9
    · subst e; rfl
    · rw [if_neg e, if_neg e]
  obtain ⟨V2, e22⟩ : ∃ W, W = V0.alloc (.cells #[.int .u8 0, .int .u8 127, .iface 114 (.pointer (some ⟨w.heap.size + 2, 0, none⟩)), .int .u8 128, .int .u8 191, .iface 143 (.agg #[.pointer (some ⟨w.heap.size + 1, 0, none⟩)]), .int .u8 192, .int .u8 194, .iface 116 (.pointer (some ⟨w.heap.size + 2 + 1, 0, none⟩)), .int .u8 195, .int .u8 196, .iface 119 (.pointer (some ⟨w.heap.size + 2 + 1 + 1, 0, none⟩)), .int .u8 197, .int .u8 198, .iface 122 (.pointer (some ⟨w.heap.size + 2 + 1 + 1 + 1, 0, none⟩)), .int .u8 199, .int .u8 201, .iface 125 (.pointer (some ⟨w.heap.size + 2 + 1 + 1 + 1 + 1, 0, none⟩)), .int .u8 202, .int .u8 203, .iface 128 (.pointer (some ⟨w.heap.size + 2 + 1 + 1 + 1 + 1 + 1, 0, none⟩))] 141) := ⟨_, rfl⟩
  rw [← e22] at h9
  have z22 : V2.heap.size = w.heap.size + 10 := by rw [e22, World.size_alloc, z20]
  have k22 : Kept (fun _ => False) V0 V2 := by rw [e22]; exact (Kept.refl _ _).alloc _
  have rbs : Raw (w.heap.size + 9) 21 (encbs (newL w.heap.size) (newSt a b) newX) V2 := by
    rw [e22]
    refine (raw_new V0 _ _ 21 _ fun i hi => ?_).same z20
    rcases (by omega : i = 0 ∨ i = 1 ∨ i = 2 ∨ i = 3 ∨ i = 4 ∨ i = 5 ∨ i = 6 ∨ i = 7 ∨ i = 8 ∨ i = 9 ∨ i = 10 ∨ i = 11 ∨ i = 12 ∨ i = 13 ∨ i = 14 ∨ i = 15 ∨ i = 16 ∨ i = 17 ∨ i = 18 ∨ i = 19 ∨ i = 20) with rfl | rfl | rfl | rfl | rfl | rfl | rfl | rfl | rfl | rfl | rfl | rfl | rfl | rfl | rfl | rfl | rfl | rfl | rfl | rfl | rfl <;> rfl
  have rnb : Raw (w.heap.size + 10) 1 (encnb (newL w.heap.size) (newSt a b) newX) (w9.alloc (.cells #[.pointer (some ⟨w.heap.size + 8, 0, none⟩)] t)) := by
    refine (raw_new w9 _ _ 1 _ fun i hi => ?_).same hs9
    have e : i = 0 := by omega
    subst e; rfl
  have k30 : Kept (fun _ => False) w9 (w9.alloc (.cells #[.pointer (some ⟨w.heap.size + 8, 0, none⟩)] t)) := (Kept.refl _ _).alloc _
  have kF : Kept (fun _ => False) V0 (w9.alloc (.cells #[.pointer (some ⟨w.heap.size + 8, 0, none⟩)] t)) := (k22.trans h9).trans k30
  have K8 : Kept (fun k => k = w.heap.size + 8) W8 (w9.alloc (.cells #[.pointer (some ⟨w.heap.size + 8, 0, none⟩)] t)) := k20.trans (kF.wide (fun _ x => x.elim))
  have K7 : Kept (fun k => k = w.heap.size + 8) W7 (w9.alloc (.cells #[.pointer (some ⟨w.heap.size + 8, 0, none⟩)] t)) := (k8.wide (fun _ x => x.elim)).trans K8
  have K6 : Kept (fun k => k = w.heap.size + 8) W6 (w9.alloc (.cells #[.pointer (some ⟨w.heap.size + 8, 0, none⟩)] t)) := (k7.wide (fun _ x => x.elim)).trans K7
  have K5 : Kept (fun k => k = w.heap.size + 8) W5 (w9.alloc (.cells #[.pointer (some ⟨w.heap.size + 8, 0, none⟩)] t)) := (k6.wide (fun _ x => x.elim)).trans K6
  have K4 : Kept (fun k => k = w.heap.size + 8) W4 (w9.alloc (.cells #[.pointer (some ⟨w.heap.size + 8, 0, none⟩)] t)) := (k5.wide (fun _ x => x.elim)).trans K5
  have K3 : Kept (fun k => k = w.heap.size + 8) W3 (w9.alloc (.cells #[.pointer (some ⟨w.heap.size + 8, 0, none⟩)] t)) := (k4.wide (fun _ x => x.elim)).trans K4
  have K2 : Kept (fun k => k = w.heap.size + 8) W2 (w9.alloc (.cells #[.pointer (some ⟨w.heap.size + 8, 0, none⟩)] t)) := (k3.wide (fun _ x => x.elim)).trans K3
  have K1 : Kept (fun k => k = w.heap.size + 8) w1 (w9.alloc (.cells #[.pointer (some ⟨w.heap.size + 8, 0, none⟩)] t)) := (k2.wide (fun _ x => x.elim)).trans K2
  have K0 : Kept (fun k => k = w.heap.size + 8) W (w9.alloc (.cells #[.pointer (some ⟨w.heap.size + 8, 0, none⟩)] t)) := (k1.wide (fun _ x => x.elim)).trans K1
  have Kw : Kept (fun k => k = w.heap.size + 8) w (w9.alloc (.cells #[.pointer (some ⟨w.heap.size + 8, 0, none⟩)] t)) := (kW.wide (fun _ x => x.elim)).trans K0
  clear e2 e3 e4 e5 e6 e7 e8 e20 e22
  refine ⟨⟨fun j hj => ?_, newL_inj _, ⟨rfl, Or.inl ⟨rfl, rfl⟩⟩, fun q hq => by cases hq⟩, ⟨Kw.os, Kw.tape, Kw.output, Kw.size, fun k hk _ => Kw.block k hk (by omega)⟩⟩
  rcases eleven hj with rfl | rfl | rfl | rfl | rfl | rfl | rfl | rfl | rfl | rfl | rfl
  · exact rnb
  · exact rg.kept kF (by omega) (fun x => x)
  · exact rbs.kept (Kept.trans h9 k30) (by omega) (fun x => x)
  · exact rck.kept K0 (by omega) (by omega)
  · exact rbk.kept K1 (by omega) (by omega)
  · exact rtm.kept K3 (by omega) (by omega)
  · exact rwa.kept K4 (by omega) (by omega)
  · exact rpo.kept K5 (by omega) (by omega)
  · exact rup.kept K6 (by omega) (by omega)
  · exact rre.kept K7 (by omega) (by omega)
  · exact rme.kept K2 (by omega) (by omega)

end Go.Proofs.YtikdbpphbdbdnaaGreat
