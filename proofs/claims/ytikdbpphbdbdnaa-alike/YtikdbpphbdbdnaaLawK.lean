/- The program's Build, whatever the input (for the seat that has no document's board). -/
import Derived.Test.YtikdbpphbdbdnaaBc
import Derived.Test.YtikdbpphbdbdnaaBb
namespace Go.Proofs.Ytikdbpphbdbdnaa
open Go.RowKit

theorem iBuild_any (s : ByteArray) (n : Int) (w : World) :
    Calls Try.prog 22 #[.string s, .int .i64 n] w fun e w' => e = .returned (.tuple #[.string (buildS s n), .int .i64 (buildE s n)]) ∧ Below w.heap.size w w' := by
  unfold buildS buildE
  by_cases h : 61 < s.size
  · rw [if_pos h, if_pos h]
    exact (iBuild_long s n w h).mono fun e w' he => ⟨he.1, by rw [he.2]; exact Below.refl _ _⟩
  · rw [if_neg h, if_neg h]
    by_cases hn : n < 0 ∨ 255 < n
    · rw [if_pos hn, if_pos hn]
      exact (iBuild_place s n w (by omega) hn).mono fun e w' he => ⟨he.1, by rw [he.2]; exact Below.refl _ _⟩
    · rw [if_neg hn, if_neg hn]
      exact iBuild_ok s n w (by omega) (by omega) (by omega)

set_option maxHeartbeats 400000 in
theorem nBuild_any (s : ByteArray) (n : Int) (w : World) :
    Calls Try.prog 10 #[.string s, .int .i64 n] w fun e w' => e = .returned (.tuple #[.string (buildS s n), .int .i64 (buildE s n)]) ∧ Below w.heap.size w w' := by
  go_enter Try.func10, Try.ntmps10
  go_wp2_with (go_at_call 22; refine (iBuild_any _ _ _).mono ?_; rintro e w' ⟨rfl, hb⟩)
  go_ret2
  exact ⟨rfl, hb⟩

end Go.Proofs.Ytikdbpphbdbdnaa
