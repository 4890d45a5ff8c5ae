/- The program's board: New. -/
import Derived.Test.YtommhbidkoeifaaGreatNewX1
namespace Go.Proofs.YtommhbidkoeifaaGreat
open Go.RowKit
set_option linter.unusedVariables false

set_option maxRecDepth 100000 in
set_option maxHeartbeats 1000000 in
theorem xNew_no1 (a b : ByteArray) (w : World) (h : ¬ a.size = 64) :
    Calls Tryz.prog 44 #[.string a, .string b] w fun e w' => e = .returned (.tuple #[.pointer none, .int .i64 1]) ∧ w' = w := by
  have h' : ((a.size : Int) != 64) = true := by rw [bne_iff_ne]; omega
  go_enter Tryz.func44, Tryz.ntmps44
  go_wp2
  go_ret2
  exact ⟨rfl, rfl⟩

set_option maxRecDepth 100000 in
set_option maxHeartbeats 1000000 in
theorem xNew_no2 (a b : ByteArray) (w : World) (h : a.size = 64) (h2 : ¬ b.size = 64) :
    Calls Tryz.prog 44 #[.string a, .string b] w fun e w' => e = .returned (.tuple #[.pointer none, .int .i64 1]) ∧ w' = w := by
  have h' : ((b.size : Int) != 64) = true := by rw [bne_iff_ne]; omega
  go_enter Tryz.func44, Tryz.ntmps44
  go_wp2
  go_ret2
  exact ⟨rfl, rfl⟩

theorem xNew_no (a b : ByteArray) (w : World) (h : ¬ (a.size = 64 ∧ b.size = 64)) :
    Calls Tryz.prog 44 #[.string a, .string b] w fun e w' => e = .returned (.tuple #[.pointer none, .int .i64 1]) ∧ w' = w := by
  by_cases h1 : a.size = 64
  · exact xNew_no2 a b w h1 (fun x => h ⟨h1, x⟩)
  · exact xNew_no1 a b w h1

set_option maxRecDepth 100000 in
set_option maxHeartbeats 2000000 in
theorem xNew_ok (a b : ByteArray) (w : World) (h : a.size = 64) (h2 : b.size = 64) :
    Calls Tryz.prog 44 #[.string a, .string b] w fun e w' => ∃ w1, Hid (w1 = (((w.alloc (.cells #[.int .i64 0, .slice none 0 0] 111)).alloc (.cells (zeroK.setIfInBounds 130 (.int .i64 (-1))) 146)).setCells (w.heap.size + 1) 0 (strs a)).setCells (w.heap.size + 1) 64 (strs b)) ∧ e = .returned (.tuple #[.pointer (some ⟨w1.heap.size + 1 + 1 + 1 + 1 + 1, 0, none⟩), .int .i64 0]) ∧ Hid (Still (newW w w1 (w1.heap.size + 1 + 1 + 1 + 1 + 1)) w' ∧ w'.heap.size = w.heap.size + 10) := by
  go_enter Tryz.func44, Tryz.ntmps44
  go_wp2_with (go_at_call 52; refine (xnewBanks_ok a b _ h h2).mono ?_; rintro e w1 ⟨rfl, hw1⟩; replace hw1 : Hid _ := hw1)
  obtain ⟨g, hg⟩ : ∃ g, g = w1.heap.size + 1 + 1 + 1 + 1 + 1 := ⟨_, rfl⟩
  obtain ⟨W0, hW0⟩ : ∃ W0, W0 = ((((((w1.alloc (.cells #[.pointer (some ⟨w.heap.size, 0, none⟩), .int .u8 0, .int .i64 0, .bool false] 116)).alloc (.cells #[.pointer (some ⟨w.heap.size, 0, none⟩), .int .i64 0, .int .u8 0, .bool false, .bool false, .bool false] 119)).alloc (.cells #[.int .u8 0, .int .u8 0] 122)).alloc (.cells #[.pointer (some ⟨w.heap.size + 1, 0, none⟩), .bool false, .int .u8 0] 125)).alloc (.cells #[.int .i64 1, .pointer (some ⟨w.heap.size + 1, 0, none⟩)] 128)).alloc (.cells #[.int .u8 0, .int .u8 0, .int .u8 0, .bool false, .bool false, .int .i64 0, .int .u8 0, .int .u8 0, .bool false, .slice none 0 0, .pointer (some ⟨w.heap.size, 0, none⟩), .pointer (some ⟨w.heap.size + 1, 0, none⟩), .pointer (some ⟨w1.heap.size, 0, none⟩), .pointer (some ⟨w1.heap.size + 1, 0, none⟩), .pointer (some ⟨w1.heap.size + 1 + 1, 0, none⟩), .pointer (some ⟨w1.heap.size + 1 + 1 + 1, 0, none⟩), .pointer (some ⟨w1.heap.size + 1 + 1 + 1 + 1, 0, none⟩), .bool false, .int .i64 4] 135)) := ⟨_, rfl⟩
  rw [← hW0]
  rw [← hg]
  have hgl : W0.heap.size = g + 1 := by rw [hW0, hg]; simp
  have hgl2 : g < W0.heap.size := by omega
  have CS : W0.cell? ⟨g, 12, none⟩ = some (.pointer (some ⟨w1.heap.size, 0, none⟩)) ∧ W0.cell? ⟨g, 13, none⟩ = some (.pointer (some ⟨w1.heap.size + 1, 0, none⟩)) ∧ W0.cell? ⟨g, 14, none⟩ = some (.pointer (some ⟨w1.heap.size + 1 + 1, 0, none⟩)) ∧ W0.cell? ⟨g, 15, none⟩ = some (.pointer (some ⟨w1.heap.size + 1 + 1 + 1, 0, none⟩)) ∧ W0.cell? ⟨g, 16, none⟩ = some (.pointer (some ⟨w1.heap.size + 1 + 1 + 1 + 1, 0, none⟩)) := by
    rw [hW0, hg]
    refine ⟨?_, ?_, ?_, ?_, ?_⟩ <;> simp [go_sem]
  obtain ⟨c12, c13, c14, c15, c16⟩ := CS
  have c9 : W0.cell? ⟨g, 9, none⟩ = some (.slice none 0 0) ∧ W0.frozen? ⟨g, 9, none⟩ = false := by
    rw [hW0, hg]
    refine ⟨?_, ?_⟩ <;> simp [go_sem]
  obtain ⟨c9, f9⟩ := c9
  have HG : Hid (g = w1.heap.size + 1 + 1 + 1 + 1 + 1) := hg
  have HW : Hid (W0 = ((((((w1.alloc (.cells #[.pointer (some ⟨w.heap.size, 0, none⟩), .int .u8 0, .int .i64 0, .bool false] 116)).alloc (.cells #[.pointer (some ⟨w.heap.size, 0, none⟩), .int .i64 0, .int .u8 0, .bool false, .bool false, .bool false] 119)).alloc (.cells #[.int .u8 0, .int .u8 0] 122)).alloc (.cells #[.pointer (some ⟨w.heap.size + 1, 0, none⟩), .bool false, .int .u8 0] 125)).alloc (.cells #[.int .i64 1, .pointer (some ⟨w.heap.size + 1, 0, none⟩)] 128)).alloc (.cells #[.int .u8 0, .int .u8 0, .int .u8 0, .bool false, .bool false, .int .i64 0, .int .u8 0, .int .u8 0, .bool false, .slice none 0 0, .pointer (some ⟨w.heap.size, 0, none⟩), .pointer (some ⟨w.heap.size + 1, 0, none⟩), .pointer (some ⟨w1.heap.size, 0, none⟩), .pointer (some ⟨w1.heap.size + 1, 0, none⟩), .pointer (some ⟨w1.heap.size + 1 + 1, 0, none⟩), .pointer (some ⟨w1.heap.size + 1 + 1 + 1, 0, none⟩), .pointer (some ⟨w1.heap.size + 1 + 1 + 1 + 1, 0, none⟩), .bool false, .int .i64 4] 135))) := hW0
  have h12 := World.new_ne W0 ⟨g, 12, none⟩ c12
  have HS0 : ∀ (o o' : Obj) (v : Value), (((W0.setCell ⟨g, 9, none⟩ v).alloc o).alloc o').cell? ⟨g, 12, none⟩ = some (.pointer (some ⟨w1.heap.size, 0, none⟩)) ∧ (((W0.setCell ⟨g, 9, none⟩ v).alloc o).alloc o').cell? ⟨g, 13, none⟩ = some (.pointer (some ⟨w1.heap.size + 1, 0, none⟩)) ∧ (((W0.setCell ⟨g, 9, none⟩ v).alloc o).alloc o').cell? ⟨g, 14, none⟩ = some (.pointer (some ⟨w1.heap.size + 1 + 1, 0, none⟩)) ∧ (((W0.setCell ⟨g, 9, none⟩ v).alloc o).alloc o').cell? ⟨g, 15, none⟩ = some (.pointer (some ⟨w1.heap.size + 1 + 1 + 1, 0, none⟩)) ∧ (((W0.setCell ⟨g, 9, none⟩ v).alloc o).alloc o').cell? ⟨g, 16, none⟩ = some (.pointer (some ⟨w1.heap.size + 1 + 1 + 1 + 1, 0, none⟩)) := fun o o' v => by
    have q1 : g < (W0.setCell ⟨g, 9, none⟩ v).heap.size := by simp [hgl]
    have q2 : g < ((W0.setCell ⟨g, 9, none⟩ v).alloc o).heap.size := by rw [World.size_alloc]; omega
    refine ⟨?_, ?_, ?_, ?_, ?_⟩
    · rw [World.cell?_alloc_past _ _ _ q2, World.cell?_alloc_past _ _ _ q1, World.cell?_setCell_other _ _ _ _ (by simp)]; exact c12
    · rw [World.cell?_alloc_past _ _ _ q2, World.cell?_alloc_past _ _ _ q1, World.cell?_setCell_other _ _ _ _ (by simp)]; exact c13
    · rw [World.cell?_alloc_past _ _ _ q2, World.cell?_alloc_past _ _ _ q1, World.cell?_setCell_other _ _ _ _ (by simp)]; exact c14
    · rw [World.cell?_alloc_past _ _ _ q2, World.cell?_alloc_past _ _ _ q1, World.cell?_setCell_other _ _ _ _ (by simp)]; exact c15
    · rw [World.cell?_alloc_past _ _ _ q2, World.cell?_alloc_past _ _ _ q1, World.cell?_setCell_other _ _ _ _ (by simp)]; exact c16
  have HS : Hid (∀ (o o' : Obj) (v : Value), (((W0.setCell ⟨g, 9, none⟩ v).alloc o).alloc o').drew.cell? ⟨g, 12, none⟩ = some (.pointer (some ⟨w1.heap.size, 0, none⟩)) ∧ (((W0.setCell ⟨g, 9, none⟩ v).alloc o).alloc o').drew.cell? ⟨g, 13, none⟩ = some (.pointer (some ⟨w1.heap.size + 1, 0, none⟩)) ∧ (((W0.setCell ⟨g, 9, none⟩ v).alloc o).alloc o').drew.cell? ⟨g, 14, none⟩ = some (.pointer (some ⟨w1.heap.size + 1 + 1, 0, none⟩)) ∧ (((W0.setCell ⟨g, 9, none⟩ v).alloc o).alloc o').drew.cell? ⟨g, 15, none⟩ = some (.pointer (some ⟨w1.heap.size + 1 + 1 + 1, 0, none⟩)) ∧ (((W0.setCell ⟨g, 9, none⟩ v).alloc o).alloc o').drew.cell? ⟨g, 16, none⟩ = some (.pointer (some ⟨w1.heap.size + 1 + 1 + 1 + 1, 0, none⟩))) := fun o o' v => HS0 o o' v
  clear HS0
  clear hg hW0
  go_region_held3 (fun W => W.cell? ⟨g, 12, none⟩ = some (.pointer (some ⟨w1.heap.size, 0, none⟩)) ∧ W.cell? ⟨g, 13, none⟩ = some (.pointer (some ⟨w1.heap.size + 1, 0, none⟩)) ∧ W.cell? ⟨g, 14, none⟩ = some (.pointer (some ⟨w1.heap.size + 1 + 1, 0, none⟩)) ∧ W.cell? ⟨g, 15, none⟩ = some (.pointer (some ⟨w1.heap.size + 1 + 1 + 1, 0, none⟩)) ∧ W.cell? ⟨g, 16, none⟩ = some (.pointer (some ⟨w1.heap.size + 1 + 1 + 1 + 1, 0, none⟩))) (first | (with_reducible exact HS.out _ _ _) | go_keep) (fail)
  go_wp2
  go_ret2
  refine ⟨w1, ?_, ?_, ?_⟩
  · have e1 := hw1.out
    rw [World.size_alloc] at e1
    exact e1
  · rw [HG.out]
    try rfl
  · have e2 := HG.out
    have e3 := HW.out
    have z1 : w1.heap.size = w.heap.size + 2 := by rw [hw1.out, setCells_size, setCells_size, World.size_alloc, World.size_alloc]
    refine ⟨?_, ?_⟩
    · unfold newW
      rw [← e2, ← e3]
      exact (Kept.refl _ _).drew
    · show (World.alloc _ _).heap.size = _
      rw [World.size_alloc, World.size_alloc]
      simp [hgl]
      omega

end Go.Proofs.YtommhbidkoeifaaGreat
