/- The document's Build. -/
import Derived.Test.YtommhbidkoeifaaGreatValid
import Derived.Laws.BytesArg
namespace Go.Proofs.YtommhbidkoeifaaGreat
open Go.RowKit

set_option maxHeartbeats 400000 in
theorem rBuild_long (s : ByteArray) (n : Int) (w : World) (h : 61 < s.size) :
    Calls Tryz.prog 12 #[.string s, .int .i64 n] w fun e w' => e = .returned (.tuple #[.string ByteArray.empty, .int .i64 2]) ∧ w' = w := by
  have h' : (61 : Int) < (s.size : Int) := by omega
  go_enter Tryz.func12, Tryz.ntmps12
  go_wp2
  go_ret2
  exact ⟨rfl, rfl⟩

set_option maxHeartbeats 400000 in
theorem rBuild_place (s : ByteArray) (n : Int) (w : World) (h : s.size ≤ 61) (hn : n < 0 ∨ 255 < n) :
    Calls Tryz.prog 12 #[.string s, .int .i64 n] w fun e w' => e = .returned (.tuple #[.string ByteArray.empty, .int .i64 3]) ∧ w' = w := by
  have h' : ¬ (61 : Int) < (s.size : Int) := by omega
  rcases hn with hn | hn
  · go_enter Tryz.func12, Tryz.ntmps12
    go_wp2
    go_ret2
    exact ⟨rfl, rfl⟩
  · have hn' : ¬ n < 0 := by omega
    go_enter Tryz.func12, Tryz.ntmps12
    go_wp2
    go_ret2
    exact ⟨rfl, rfl⟩

theorem run_one (W : World) (n : Int) :
    (convert 72 9 (.slice (some ⟨W.heap.size, 0, none⟩) 1 1)).run Tryz.prog (W.alloc (.cells #[.int .u8 n] 5)) = .ok (.string (one n)) (W.alloc (.cells #[.int .u8 n] 5)) := by
  have h := run_convert_bytes_arg (P := Tryz.prog) (W.alloc (.cells #[.int .u8 n] 5)) 72 5 Tryz.underlying72 Tryz.underlying5 W.heap.size 0 1 1 [n] rfl (fun i hi => by
    obtain rfl : i = 0 := by omega
    simp [go_sem]) 9 Tryz.underlying9
  exact h

theorem run_one' (W : World) (o : Obj) (n : Int) :
    (convert 72 9 (.slice (some ⟨W.heap.size + 1, 0, none⟩) 1 1)).run Tryz.prog ((W.alloc o).alloc (.cells #[.int .u8 n] 5)) = .ok (.string (one n)) ((W.alloc o).alloc (.cells #[.int .u8 n] 5)) := by
  have h := run_one (W.alloc o) n
  rw [World.size_alloc] at h
  exact h

set_option maxRecDepth 100000 in
set_option maxHeartbeats 400000 in
theorem rBuild_ok (s : ByteArray) (n : Int) (w : World) (h : s.size ≤ 61) (h0 : 0 ≤ n) (h1 : n ≤ 255) :
    Calls Tryz.prog 12 #[.string s, .int .i64 n] w fun e w' => e = .returned (.tuple #[.string (imageOf s n), .int .i64 0]) ∧ Below w.heap.size w w' := by
  have h' : ¬ (61 : Int) < (s.size : Int) := by omega
  have h0' : ¬ n < 0 := by omega
  have h1' : ¬ 255 < n := by omega
  have hone := run_one
  have hq1 : ¬ 9223372036854775807 < 1 + (one n).size := by rw [one_size]; omega
  have hq2 : ¬ 9223372036854775807 < 1 + (one n).size + s.size := by rw [one_size]; omega
  go_enter Tryz.func12, Tryz.ntmps12
  go_wp2
  go_loop [6] (fun t => ∃ k : Nat, s.size + k ≤ 61 ∧ t = .string (padded n s k)) (fun t => 100 - (match t with | .string u => u.size | _ => 0))
  case atStart => exact ⟨0, by omega, by rw [padded_start]⟩
  case round =>
    obtain ⟨k, hk, rfl⟩ := hrel
    have hsz := padded_size n s k
    by_cases hlt : s.size + k < 61
    · have HM : Hid (padded n s k ++ (⟨#[0]⟩ : ByteArray) = padded n s (k + 1)) := padded_more n s k
      have hs2 := padded_size n s (k + 1)
      go_wp2
      rw [HM.out]
      refine ⟨⟨k + 1, by omega, rfl⟩, ?_⟩
      show 100 - (padded n s (k + 1)).size < 100 - (padded n s k).size
      omega
    · obtain rfl : k = 61 - s.size := by omega
      have hb : padded n s (61 - s.size) = bodyOf s n := rfl
      rw [hb] at hsz ⊢
      have hz : (bodyOf s n).size = 63 := bodyOf_size s n h
      clear hsz hk hlt hb hq1 hq2 h0' h1' h'
      go_wp2_with fail
      refine (rSum_any (bodyOf s n) _ (by rw [hz]; unfold maxLen; omega)).mono ?_
      rintro e w1 ⟨rfl, rfl⟩
      rw [hz]
      have hp := psum_bounds (bodyOf s n) 63
      have hq3 : ¬ 9223372036854775807 < 63 + (one ((421 - psum (bodyOf s n) 63) % 256)).size := by rw [one_size]; omega
      have hone' := run_one'
      go_wp2
      go_ret2
      exact ⟨rfl, ((Below.refl _ w).alloc (Nat.le_refl _) _).alloc (by simp) _⟩

end Go.Proofs.YtommhbidkoeifaaGreat
