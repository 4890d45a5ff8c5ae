/- Of several texts, one behind the other. -/
import Derived.Test.YtikdbpphbdbdnaaGreatBb
import Derived.Laws.BytesArg
import Derived.Lib.BufferWrite
/- The document's Build. -/
namespace Go.Proofs.YtikdbpphbdbdnaaGreat
open Go.RowKit

set_option maxHeartbeats 400000 in
theorem rBuild_long (s : ByteArray) (n : Int) (w : World) (h : 61 < s.size) :
    Calls Tryz.prog 14 #[.string s, .int .i64 n] w fun e w' => e = .returned (.tuple #[.string ByteArray.empty, .int .i64 2]) ∧ w' = w := by
  have h' : (61 : Int) < (s.size : Int) := by omega
  go_enter Tryz.func14, Tryz.ntmps14
  go_wp2
  go_ret2
  exact ⟨rfl, rfl⟩

set_option maxHeartbeats 400000 in
theorem rBuild_place (s : ByteArray) (n : Int) (w : World) (h : s.size ≤ 61) (hn : n < 0 ∨ 255 < n) :
    Calls Tryz.prog 14 #[.string s, .int .i64 n] w fun e w' => e = .returned (.tuple #[.string ByteArray.empty, .int .i64 3]) ∧ w' = w := by
  have h' : ¬ (61 : Int) < (s.size : Int) := by omega
  rcases hn with hn | hn
  · go_enter Tryz.func14, Tryz.ntmps14
    go_wp2
    go_ret2
    exact ⟨rfl, rfl⟩
  · have hn' : ¬ n < 0 := by omega
    go_enter Tryz.func14, Tryz.ntmps14
    go_wp2
    go_ret2
    exact ⟨rfl, rfl⟩

theorem run_one (W : World) (n : Int) :
    (convert 72 9 (.slice (some ⟨W.heap.size, 0, none⟩) 1 1)).run Tryz.prog (W.alloc (.cells #[.int .u8 n] 5)) = .ok (.string (one n)) (W.alloc (.cells #[.int .u8 n] 5)) := by
  have h := run_convert_bytes_arg (P := Tryz.prog) (W.alloc (.cells #[.int .u8 n] 5)) 72 5 Tryz.underlying72 Tryz.underlying5 W.heap.size 0 1 1 [n] rfl (fun i hi => by
    obtain rfl : i = 0 := by omega
    simp [go_sem]) 9 Tryz.underlying9
  exact h

theorem run_one' (W : World) (o : Obj) (n : Int) :
    (convert 72 9 (.slice (some ⟨W.heap.size + 1, 0, none⟩) 1 1)).run Tryz.prog ((W.alloc o).alloc (.cells #[.int .u8 n] 5)) = .ok (.string (one n)) ((W.alloc o).alloc (.cells #[.int .u8 n] 5)) := by
  have h := run_one (W.alloc o) n
  rw [World.size_alloc] at h
  exact h

set_option maxRecDepth 100000 in
set_option maxHeartbeats 400000 in
theorem rBuild_ok (s : ByteArray) (n : Int) (w : World) (h : s.size ≤ 61) (h0 : 0 ≤ n) (h1 : n ≤ 255) :
    Calls Tryz.prog 14 #[.string s, .int .i64 n] w fun e w' => e = .returned (.tuple #[.string (imageOf s n), .int .i64 0]) ∧ Below w.heap.size w w' := by
  have h' : ¬ (61 : Int) < (s.size : Int) := by omega
  have h0' : ¬ n < 0 := by omega
  have h1' : ¬ 255 < n := by omega
  have hone := run_one
  have hq1 : ¬ 9223372036854775807 < 1 + (one n).size := by rw [one_size]; omega
  have hq2 : ¬ 9223372036854775807 < 1 + (one n).size + s.size := by rw [one_size]; omega
  go_enter Tryz.func14, Tryz.ntmps14
  go_wp2
  go_loop [6] (fun t => ∃ k : Nat, s.size + k ≤ 61 ∧ t = .string (padded n s k)) (fun t => 100 - (match t with | .string u => u.size | _ => 0))
  case atStart => exact ⟨0, by omega, by rw [padded_start]⟩
  case round =>
    obtain ⟨k, hk, rfl⟩ := hrel
    have hsz := padded_size n s k
    by_cases hlt : s.size + k < 61
    · have HM : Hid (padded n s k ++ (⟨#[0]⟩ : ByteArray) = padded n s (k + 1)) := padded_more n s k
      have hs2 := padded_size n s (k + 1)
      go_wp2
      rw [HM.out]
      refine ⟨⟨k + 1, by omega, rfl⟩, ?_⟩
      show 100 - (padded n s (k + 1)).size < 100 - (padded n s k).size
      omega
    · obtain rfl : k = 61 - s.size := by omega
      have hb : padded n s (61 - s.size) = bodyOf s n := rfl
      rw [hb] at hsz ⊢
      have hz : (bodyOf s n).size = 63 := bodyOf_size s n h
      clear hsz hk hlt hb hq1 hq2 h0' h1' h'
      go_wp2_with fail
      refine (rSum_any (bodyOf s n) _ (by rw [hz]; unfold maxLen; omega)).mono ?_
      rintro e w1 ⟨rfl, rfl⟩
      rw [hz]
      have hp := psum_bounds (bodyOf s n) 63
      have hq3 : ¬ 9223372036854775807 < 63 + (one ((421 - psum (bodyOf s n) 63) % 256)).size := by rw [one_size]; omega
      have hone' := run_one'
      go_wp2
      go_ret2
      exact ⟨rfl, ((Below.refl _ w).alloc (Nat.le_refl _) _).alloc (by simp) _⟩

end Go.Proofs.YtikdbpphbdbdnaaGreat

/- The program's Build. -/
namespace Go.Proofs.YtikdbpphbdbdnaaGreat
open Go.RowKit

set_option maxHeartbeats 400000 in
theorem iBuild_long (s : ByteArray) (n : Int) (w : World) (h : 61 < s.size) :
    Calls Tryz.prog 42 #[.string s, .int .i64 n] w fun e w' => e = .returned (.tuple #[.string ByteArray.empty, .int .i64 2]) ∧ w' = w := by
  have h' : (61 : Int) < (s.size : Int) := by omega
  go_enter Tryz.func42, Tryz.ntmps42
  go_wp2
  go_ret2
  exact ⟨rfl, rfl⟩

set_option maxHeartbeats 400000 in
theorem iBuild_place (s : ByteArray) (n : Int) (w : World) (h : s.size ≤ 61) (hn : n < 0 ∨ 255 < n) :
    Calls Tryz.prog 42 #[.string s, .int .i64 n] w fun e w' => e = .returned (.tuple #[.string ByteArray.empty, .int .i64 3]) ∧ w' = w := by
  have h' : ¬ (61 : Int) < (s.size : Int) := by omega
  rcases hn with hn | hn
  · go_enter Tryz.func42, Tryz.ntmps42
    go_wp2
    go_ret2
    exact ⟨rfl, rfl⟩
  · have hn' : ¬ n < 0 := by omega
    go_enter Tryz.func42, Tryz.ntmps42
    go_wp2
    go_ret2
    exact ⟨rfl, rfl⟩

/-- A text's bytes as cells. -/
def cellsB (u : ByteArray) : Array Value := (Lib.byteCells u.data.toList).toArray

theorem heap_new (w : World) (o : Obj) : (w.alloc o).heap[w.heap.size]? = some o := by
  show (w.heap.push o)[w.heap.size]? = some o
  simp

theorem setRow_alloc (w : World) (cur new : Array Value) (t : TypeId) : (w.alloc (.cells cur t)).setRow w.heap.size new = w.alloc (.cells new t) := by
  unfold World.setRow World.alloc
  simp only [World.mk.injEq, and_true]
  apply Array.ext
  · simp
  · intro k h1 h2
    simp only [Array.getElem_modify, Array.getElem_push]
    split
    · rename_i hk
      subst hk
      simp
    · rename_i hk
      have : k < w.heap.size := by simp at h1; omega
      simp [this]

set_option maxRecDepth 10000 in
theorem run_copy_here (w : World) (s : ByteArray) (n : Int) (h : s.size ≤ 61) (h0 : 0 ≤ n) (h1 : n ≤ 255) :
    (Builtin.copy_ #[72, 9] 3 #[.slice (some ⟨w.heap.size, 2, none⟩) 61 62, .string s]).run Tryz.prog (w.alloc (.cells #[.int .u8 176, .int .u8 n, .int .u8 0, .int .u8 0, .int .u8 0, .int .u8 0, .int .u8 0, .int .u8 0, .int .u8 0, .int .u8 0, .int .u8 0, .int .u8 0, .int .u8 0, .int .u8 0, .int .u8 0, .int .u8 0, .int .u8 0, .int .u8 0, .int .u8 0, .int .u8 0, .int .u8 0, .int .u8 0, .int .u8 0, .int .u8 0, .int .u8 0, .int .u8 0, .int .u8 0, .int .u8 0, .int .u8 0, .int .u8 0, .int .u8 0, .int .u8 0, .int .u8 0, .int .u8 0, .int .u8 0, .int .u8 0, .int .u8 0, .int .u8 0, .int .u8 0, .int .u8 0, .int .u8 0, .int .u8 0, .int .u8 0, .int .u8 0, .int .u8 0, .int .u8 0, .int .u8 0, .int .u8 0, .int .u8 0, .int .u8 0, .int .u8 0, .int .u8 0, .int .u8 0, .int .u8 0, .int .u8 0, .int .u8 0, .int .u8 0, .int .u8 0, .int .u8 0, .int .u8 0, .int .u8 0, .int .u8 0, .int .u8 0, .int .u8 0] 101)) =
      .ok (.int .i64 s.size) (w.alloc (.cells (cellsB (padded n s (62 - s.size))) 101)) := by
  have hr := Lib.run_copy_row_string (P := Tryz.prog) (w.alloc (.cells #[.int .u8 176, .int .u8 n, .int .u8 0, .int .u8 0, .int .u8 0, .int .u8 0, .int .u8 0, .int .u8 0, .int .u8 0, .int .u8 0, .int .u8 0, .int .u8 0, .int .u8 0, .int .u8 0, .int .u8 0, .int .u8 0, .int .u8 0, .int .u8 0, .int .u8 0, .int .u8 0, .int .u8 0, .int .u8 0, .int .u8 0, .int .u8 0, .int .u8 0, .int .u8 0, .int .u8 0, .int .u8 0, .int .u8 0, .int .u8 0, .int .u8 0, .int .u8 0, .int .u8 0, .int .u8 0, .int .u8 0, .int .u8 0, .int .u8 0, .int .u8 0, .int .u8 0, .int .u8 0, .int .u8 0, .int .u8 0, .int .u8 0, .int .u8 0, .int .u8 0, .int .u8 0, .int .u8 0, .int .u8 0, .int .u8 0, .int .u8 0, .int .u8 0, .int .u8 0, .int .u8 0, .int .u8 0, .int .u8 0, .int .u8 0, .int .u8 0, .int .u8 0, .int .u8 0, .int .u8 0, .int .u8 0, .int .u8 0, .int .u8 0, .int .u8 0] 101)) 72 9 3 5 w.heap.size 2 61 62 s #[.int .u8 176, .int .u8 n, .int .u8 0, .int .u8 0, .int .u8 0, .int .u8 0, .int .u8 0, .int .u8 0, .int .u8 0, .int .u8 0, .int .u8 0, .int .u8 0, .int .u8 0, .int .u8 0, .int .u8 0, .int .u8 0, .int .u8 0, .int .u8 0, .int .u8 0, .int .u8 0, .int .u8 0, .int .u8 0, .int .u8 0, .int .u8 0, .int .u8 0, .int .u8 0, .int .u8 0, .int .u8 0, .int .u8 0, .int .u8 0, .int .u8 0, .int .u8 0, .int .u8 0, .int .u8 0, .int .u8 0, .int .u8 0, .int .u8 0, .int .u8 0, .int .u8 0, .int .u8 0, .int .u8 0, .int .u8 0, .int .u8 0, .int .u8 0, .int .u8 0, .int .u8 0, .int .u8 0, .int .u8 0, .int .u8 0, .int .u8 0, .int .u8 0, .int .u8 0, .int .u8 0, .int .u8 0, .int .u8 0, .int .u8 0, .int .u8 0, .int .u8 0, .int .u8 0, .int .u8 0, .int .u8 0, .int .u8 0, .int .u8 0, .int .u8 0] 101
    Tryz.underlying72 (by kernel_rfl) (heap_new _ _) h (by show 2 + s.size ≤ 64; omega)
  rw [hr, setRow_alloc]
  have e : (#[.int .u8 176, .int .u8 n, .int .u8 0, .int .u8 0, .int .u8 0, .int .u8 0, .int .u8 0, .int .u8 0, .int .u8 0, .int .u8 0, .int .u8 0, .int .u8 0, .int .u8 0, .int .u8 0, .int .u8 0, .int .u8 0, .int .u8 0, .int .u8 0, .int .u8 0, .int .u8 0, .int .u8 0, .int .u8 0, .int .u8 0, .int .u8 0, .int .u8 0, .int .u8 0, .int .u8 0, .int .u8 0, .int .u8 0, .int .u8 0, .int .u8 0, .int .u8 0, .int .u8 0, .int .u8 0, .int .u8 0, .int .u8 0, .int .u8 0, .int .u8 0, .int .u8 0, .int .u8 0, .int .u8 0, .int .u8 0, .int .u8 0, .int .u8 0, .int .u8 0, .int .u8 0, .int .u8 0, .int .u8 0, .int .u8 0, .int .u8 0, .int .u8 0, .int .u8 0, .int .u8 0, .int .u8 0, .int .u8 0, .int .u8 0, .int .u8 0, .int .u8 0, .int .u8 0, .int .u8 0, .int .u8 0, .int .u8 0, .int .u8 0, .int .u8 0] : Array Value).toList = [.int .u8 176, .int .u8 n] ++ List.replicate 62 (.int .u8 0) := rfl
  rw [e]
  have e1 : ([.int .u8 176, .int .u8 n] ++ List.replicate 62 (.int .u8 0) : List Value).take 2 = [.int .u8 176, .int .u8 n] := rfl
  have e2 : ([.int .u8 176, .int .u8 n] ++ List.replicate 62 (.int .u8 0) : List Value).drop (2 + s.size) = List.replicate (62 - s.size) (.int .u8 0) := by
    rw [← List.drop_drop]
    show List.drop s.size (List.replicate 62 _) = _
    rw [List.drop_replicate]
  rw [e1, e2]
  have e3 : cellsB (padded n s (62 - s.size)) = ([Value.int .u8 176, Value.int .u8 n] ++ Lib.byteCells s.data.toList ++ List.replicate (62 - s.size) (Value.int .u8 0)).toArray := by
    unfold cellsB padded
    congr 1
    simp only [Lib.byteCells, List.map_cons, List.map_append, List.map_replicate, byte_of n h0 h1]
    rfl
  rw [e3]
  rfl

theorem run_convert_here (w : World) (u : ByteArray) (hu : u.size = 64) :
    (convert 72 9 (.slice (some ⟨w.heap.size, 0, none⟩) 64 64)).run Tryz.prog (w.alloc (.cells (cellsB u) 101)) = .ok (.string u) (w.alloc (.cells (cellsB u) 101)) := by
  have hl : u.data.toList.length = 64 := by simpa using hu
  have hr := run_convert_bytes_back (P := Tryz.prog) (w.alloc (.cells (cellsB u) 101)) 72 9 5 ⟨w.heap.size, 0, none⟩ 64 u.data.toList Tryz.underlying72 Tryz.underlying5 Tryz.underlying9 (fun j hj => by
    have ha : (⟨w.heap.size, 0, none⟩ : Addr).add j = ⟨w.heap.size, j, none⟩ := by unfold Addr.add; split <;> simp_all
    rw [ha]
    simp only [World.cell?, heap_new]
    have hj' : j < u.data.size := by simpa using hj
    simp [cellsB, Lib.byteCells, Array.getElem?_eq_getElem hj'])
  rw [hl] at hr
  exact hr

theorem cells_last (a : ByteArray) (h : a.size = 63) : (cellsB (a ++ (⟨#[0]⟩ : ByteArray)))[63]? = some (.int .u8 0) := by
  have h1 : (a ++ (⟨#[0]⟩ : ByteArray)).data.toList = a.data.toList ++ [0] := by rw [ByteArray.data_append, Array.toList_append]
  have hl : (a.data.toList.map fun b : UInt8 => Value.int .u8 (b.toNat : Int)).length = 63 := by simpa using h
  unfold cellsB Lib.byteCells
  rw [h1, List.map_append, List.getElem?_toArray, List.getElem?_append_right (by omega), hl]
  rfl

theorem cells_set (a : ByteArray) (h : a.size = 63) (x : Int) (h0 : 0 ≤ x) (h1 : x ≤ 255) : (cellsB (a ++ (⟨#[0]⟩ : ByteArray))).setIfInBounds 63 (.int .u8 x) = cellsB (a ++ one x) := by
  have e1 : (a ++ (⟨#[0]⟩ : ByteArray)).data.toList = a.data.toList ++ [0] := by rw [ByteArray.data_append, Array.toList_append]
  have e2 : (a ++ one x).data.toList = a.data.toList ++ [UInt8.ofNat x.toNat] := by rw [ByteArray.data_append, Array.toList_append]; rfl
  have hl : (a.data.toList.map fun b : UInt8 => Value.int .u8 (b.toNat : Int)).length = 63 := by simpa using h
  unfold cellsB Lib.byteCells
  rw [e1, e2, List.map_append, List.map_append, List.setIfInBounds_toArray, List.set_append, if_neg (by omega), hl]
  simp only [List.map_cons, List.map_nil, byte_of x h0 h1]
  rfl

set_option maxRecDepth 100000 in
set_option maxHeartbeats 400000 in
theorem iBuild_ok (s : ByteArray) (n : Int) (w : World) (h : s.size ≤ 61) (h0 : 0 ≤ n) (h1 : n ≤ 255) :
    Calls Tryz.prog 42 #[.string s, .int .i64 n] w fun e w' => e = .returned (.tuple #[.string (imageOf s n), .int .i64 0]) ∧ Below w.heap.size w w' := by
  have h' : ¬ (61 : Int) < (s.size : Int) := by omega
  have h0' : ¬ n < 0 := by omega
  have h1' : ¬ 255 < n := by omega
  have hcp := fun w => run_copy_here w s n h h0 h1
  have hb := bodyOf_size s n h
  rw [padded_last s n h] at hcp
  have hz : (bodyOf s n ++ (⟨#[0]⟩ : ByteArray)).size = 64 := by rw [ByteArray.size_append, hb]; rfl
  have hcv := fun w => run_convert_here w (bodyOf s n ++ (⟨#[0]⟩ : ByteArray)) hz
  have hcl := cells_last (bodyOf s n) hb
  have hcs : (cellsB (bodyOf s n ++ (⟨#[0]⟩ : ByteArray))).setIfInBounds 63 (.int .u8 ((165 - psum (bodyOf s n) 63) % 256)) = cellsB (imageOf s n) := by
    rw [cells_set (bodyOf s n) hb _ (by omega) (by omega)]
    unfold imageOf
    congr 3
    omega
  have hcv2 := fun w => run_convert_here w (imageOf s n) (imageOf_size s n h)
  have HP : Hid (psum (bodyOf s n ++ (⟨#[0]⟩ : ByteArray)) 64 = psum (bodyOf s n) 63) := psum_last (bodyOf s n) hb
  go_enter Tryz.func42, Tryz.ntmps42
  go_wp2_with fail
  refine (iSum_any (bodyOf s n ++ (⟨#[0]⟩ : ByteArray)) _ (by rw [hz]; unfold maxLen; omega)).mono ?_
  rintro e w1 ⟨rfl, rfl⟩
  rw [hz, HP.out]
  go_wp2
  go_ret2
  exact ⟨rfl, (Below.refl _ w).alloc (Nat.le_refl _) _⟩

end Go.Proofs.YtikdbpphbdbdnaaGreat
