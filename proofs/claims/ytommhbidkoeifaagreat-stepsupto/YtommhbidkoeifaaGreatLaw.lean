/- Build of both, and one step of the kinds Build, Valid and Choose. -/
import Derived.Test.YtommhbidkoeifaaGreatBuildI
import Derived.Test.YtommhbidkoeifaaGreatChooseR
namespace Go.Proofs.YtommhbidkoeifaaGreat
open Go.RowKit

theorem rBuild_any (s : ByteArray) (n : Int) (w : World) :
    Calls Tryz.prog 12 #[.string s, .int .i64 n] w fun e w' => e = .returned (.tuple #[.string (buildS s n), .int .i64 (buildE s n)]) ∧ Below w.heap.size w w' := by
  unfold buildS buildE
  by_cases h : 61 < s.size
  · rw [if_pos h, if_pos h]
    exact (rBuild_long s n w h).mono fun e w' he => ⟨he.1, by rw [he.2]; exact Below.refl _ _⟩
  · rw [if_neg h, if_neg h]
    by_cases hn : n < 0 ∨ 255 < n
    · rw [if_pos hn, if_pos hn]
      exact (rBuild_place s n w (by omega) hn).mono fun e w' he => ⟨he.1, by rw [he.2]; exact Below.refl _ _⟩
    · rw [if_neg hn, if_neg hn]
      exact rBuild_ok s n w (by omega) (by omega) (by omega)

theorem iBuild_any (s : ByteArray) (n : Int) (w : World) :
    Calls Tryz.prog 40 #[.string s, .int .i64 n] w fun e w' => e = .returned (.tuple #[.string (buildS s n), .int .i64 (buildE s n)]) ∧ Below w.heap.size w w' := by
  unfold buildS buildE
  by_cases h : 61 < s.size
  · rw [if_pos h, if_pos h]
    exact (iBuild_long s n w h).mono fun e w' he => ⟨he.1, by rw [he.2]; exact Below.refl _ _⟩
  · rw [if_neg h, if_neg h]
    by_cases hn : n < 0 ∨ 255 < n
    · rw [if_pos hn, if_pos hn]
      exact (iBuild_place s n w (by omega) hn).mono fun e w' he => ⟨he.1, by rw [he.2]; exact Below.refl _ _⟩
    · rw [if_neg hn, if_neg hn]
      exact iBuild_ok s n w (by omega) (by omega) (by omega)

set_option maxHeartbeats 400000 in
theorem nBuild_any (s : ByteArray) (n : Int) (w : World) :
    Calls Tryz.prog 19 #[.string s, .int .i64 n] w fun e w' => e = .returned (.tuple #[.string (buildS s n), .int .i64 (buildE s n)]) ∧ Below w.heap.size w w' := by
  go_enter Tryz.func19, Tryz.ntmps19
  go_wp2_with (go_at_call 40; refine (iBuild_any _ _ _).mono ?_; rintro e w' ⟨rfl, hb⟩)
  go_ret2
  exact ⟨rfl, hb⟩

set_option maxHeartbeats 400000 in
theorem num_any (n : Int) (w : World) : Calls Tryz.prog 20 #[.int .i64 n] w fun e w' => e = .returned (.int .i64 n) ∧ w' = w := by
  go_enter Tryz.func20, Tryz.ntmps20
  go_wp2
  go_ret
  exact ⟨rfl, rfl⟩


set_option maxHeartbeats 400000 in
theorem images_build (a b p q : Int) (s t : ByteArray) (l : Value) (w : World) :
    Calls Tryz.prog 10 #[.agg #[.int .i64 1, .int .i64 a, .int .i64 b, .string s, .string t, .int .i64 p, .int .i64 q, l]] w fun e w' => e = .returned (.bool true) ∧ Below w.heap.size w w' := by
  go_enter Tryz.func10, Tryz.ntmps10
  go_wp2_with fail
  refine (nBuild_any s a _).mono ?_
  rintro e w1 ⟨rfl, h1⟩
  obtain ⟨hc, hf⟩ := bcell h1
  have k1 : Below w.heap.size w w1 := ((Below.refl _ w).alloc (Nat.le_refl _) _).trans (h1.mono (by simp))
  go_wp2_with fail
  refine (rBuild_any s a _).mono ?_
  rintro e w2 ⟨rfl, h2⟩
  have k2 := k1.trans (h2.mono k1.size)
  go_wp2_with (go_at_call 20; refine (num_any _ _).mono ?_; rintro e w' ⟨rfl, rfl⟩)
  go_ret
  exact ⟨rfl, k2⟩

set_option maxHeartbeats 400000 in
theorem images_valid (a b p q : Int) (s t : ByteArray) (l : Value) (w : World) (hs : s.size ≤ maxLen) :
    Calls Tryz.prog 10 #[.agg #[.int .i64 2, .int .i64 a, .int .i64 b, .string s, .string t, .int .i64 p, .int .i64 q, l]] w fun e w' => e = .returned (.bool true) ∧ Below w.heap.size w w' := by
  go_enter Tryz.func10, Tryz.ntmps10
  go_wp2_with fail
  refine (nValid_any s _ hs).mono ?_
  rintro e w1 ⟨rfl, rfl⟩
  go_wp2_with fail
  refine (rValid_any s _ hs).mono ?_
  rintro e w2 ⟨rfl, rfl⟩
  go_wp2
  go_ret
  exact ⟨rfl, (Below.refl _ w).alloc (Nat.le_refl _) _⟩

set_option maxHeartbeats 400000 in
theorem images_choose (k a b p q : Int) (s t : ByteArray) (l : Value) (w : World) (h1 : (k == 1) = false) (h2 : (k == 2) = false) (hs : s.size ≤ maxLen) (ht : t.size ≤ maxLen) :
    Calls Tryz.prog 10 #[.agg #[.int .i64 k, .int .i64 a, .int .i64 b, .string s, .string t, .int .i64 p, .int .i64 q, l]] w fun e w' => e = .returned (.bool true) ∧ Below w.heap.size w w' := by
  go_enter Tryz.func10, Tryz.ntmps10
  go_wp2_with fail
  refine (nChoose_any s t p q _ hs ht).mono ?_
  rintro e w1 ⟨rfl, h1⟩
  obtain ⟨hc, hf⟩ := bcell h1
  have k1 : Below w.heap.size w w1 := ((Below.refl _ w).alloc (Nat.le_refl _) _).trans (h1.mono (by simp))
  go_wp2_with fail
  refine (rChoose_any s t p q _ hs ht).mono ?_
  rintro e w2 ⟨rfl, h2⟩
  have k2 := k1.trans (h2.mono k1.size)
  go_wp2
  go_ret
  exact ⟨rfl, k2⟩

theorem images_any (k a b p q : Int) (s t : ByteArray) (l : Value) (w : World) (hs : s.size ≤ maxLen) (ht : t.size ≤ maxLen) :
    Calls Tryz.prog 10 #[.agg #[.int .i64 k, .int .i64 a, .int .i64 b, .string s, .string t, .int .i64 p, .int .i64 q, l]] w fun e w' => e = .returned (.bool true) ∧ Below w.heap.size w w' := by
  by_cases h1 : k = 1
  · subst h1; exact images_build a b p q s t l w
  · by_cases h2 : k = 2
    · subst h2; exact images_valid a b p q s t l w hs
    · exact images_choose k a b p q s t l w (by simpa using h1) (by simpa using h2) hs ht

set_option maxHeartbeats 400000 in
theorem step_images (k a b p q : Int) (s t : ByteArray) (l x : Value) (w : World) (hs : s.size ≤ maxLen) (ht : t.size ≤ maxLen) (h1 : 1 ≤ k) (h3 : k ≤ 3) :
    Calls Tryz.prog 7 #[x, .agg #[.int .i64 k, .int .i64 a, .int .i64 b, .string s, .string t, .int .i64 p, .int .i64 q, l]] w fun e w' => e = .returned (.bool true) ∧ Below w.heap.size w w' := by
  go_enter Tryz.func7, Tryz.ntmps7
  go_wp2_with fail
  refine (images_any k a b p q s t l _ hs ht).mono ?_
  rintro e w1 ⟨rfl, h1⟩
  have k1 : Below w.heap.size w w1 := ((Below.refl _ w).alloc (Nat.le_refl _) _).trans (h1.mono (by simp))
  go_wp2
  go_ret
  exact ⟨rfl, k1⟩

end Go.Proofs.YtommhbidkoeifaaGreat
