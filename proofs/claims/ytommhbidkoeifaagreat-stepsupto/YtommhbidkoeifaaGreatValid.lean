/- Valid, fit, greater: of the program and of the document. -/
import Derived.Test.YtommhbidkoeifaaGreatSum
import Derived.Deep.QuietTactic
import Derived.BigQuiet
namespace Go.Proofs.YtommhbidkoeifaaGreat
open Go.RowKit

theorem ret_bool {a b : Bool} (h : a = b) : Ending.returned (.bool a) = .returned (.bool b) := by rw [h]

set_option maxHeartbeats 400000 in
theorem iValid_any (s : ByteArray) (w : World) (hs : s.size ≤ maxLen) :
    Calls Tryz.prog 41 #[.string s] w fun e w' => e = .returned (.bool (vldB s)) ∧ w' = w := by
  by_cases h64 : s.size = 64
  · have h0 : 0 < s.size := by omega
    by_cases hm : (s[0].toNat : Int) = 176
    · have HF : Hid (vldB s = (psum s 64 == 165)) := vld_sum h64 h0 hm
      go_enter Tryz.func41, Tryz.ntmps41
      go_wp2_with (go_at_call 50; refine (iSum_any _ _ hs).mono ?_; rintro e w' ⟨rfl, rfl⟩)
      go_ret
      exact ⟨ret_bool HF.out.symm, rfl⟩
    · have HF : Hid (vldB s = false) := vld_mark h0 hm
      go_enter Tryz.func41, Tryz.ntmps41
      go_wp2
      go_ret
      exact ⟨ret_bool HF.out.symm, rfl⟩
  · have HF : Hid (vldB s = false) := vld_size h64
    go_enter Tryz.func41, Tryz.ntmps41
    have hb : ((s.size : Int) == 64) = false := beq_eq_false_iff_ne.2 (by omega)
    go_wp2
    go_ret
    exact ⟨ret_bool HF.out.symm, rfl⟩

set_option maxHeartbeats 400000 in
theorem rValid_any (s : ByteArray) (w : World) (hs : s.size ≤ maxLen) :
    Calls Tryz.prog 22 #[.string s] w fun e w' => e = .returned (.bool (vldB s)) ∧ w' = w := by
  by_cases h64 : s.size = 64
  · have h0 : 0 < s.size := by omega
    by_cases hm : (s[0].toNat : Int) = 176
    · have HF : Hid (vldB s = (psum s 64 == 165)) := vld_sum h64 h0 hm
      go_enter Tryz.func22, Tryz.ntmps22
      go_wp2_with (go_at_call 27; refine (rSum_any _ _ hs).mono ?_; rintro e w' ⟨rfl, rfl⟩)
      go_ret
      exact ⟨ret_bool HF.out.symm, rfl⟩
    · have HF : Hid (vldB s = false) := vld_mark h0 hm
      go_enter Tryz.func22, Tryz.ntmps22
      go_wp2
      go_ret
      exact ⟨ret_bool HF.out.symm, rfl⟩
  · have HF : Hid (vldB s = false) := vld_size h64
    go_enter Tryz.func22, Tryz.ntmps22
    have hb : ((s.size : Int) != 64) = true := by rw [bne_iff_ne]; omega
    go_wp2
    go_ret
    exact ⟨ret_bool HF.out.symm, rfl⟩

set_option maxHeartbeats 400000 in
theorem nValid_any (s : ByteArray) (w : World) (hs : s.size ≤ maxLen) :
    Calls Tryz.prog 21 #[.string s] w fun e w' => e = .returned (.bool (vldB s)) ∧ w' = w := by
  go_enter Tryz.func21, Tryz.ntmps21
  go_wp2_with (go_at_call 41; refine (iValid_any _ _ hs).mono ?_; rintro e w' ⟨rfl, rfl⟩)
  go_ret
  exact ⟨rfl, rfl⟩

end Go.Proofs.YtommhbidkoeifaaGreat
