/- fit, greater, best, Choose: of the program and of the document. -/
import Derived.Test.YtmkkeigcpkblkaaValid
namespace Go.Proofs.Ytmkkeigcpkblkaa
open Go.RowKit

set_option maxHeartbeats 400000 in
theorem iFit_any (s : ByteArray) (n : Int) (w : World) (hs : s.size ≤ maxLen) :
    Calls Try.prog 50 #[.string s, .int .i64 n] w fun e w' => e = .returned (.bool (fitB s n)) ∧ w' = w := by
  cases hv : vldB s
  · have HF : Hid (fitB s n = false) := by simp [Hid, fitB, hv]
    go_enter Try.func50, Try.ntmps50
    go_wp2_with (go_at_call 40; refine (iValid_any _ _ hs).mono ?_; rintro e w' ⟨rfl, rfl⟩)
    go_ret
    exact ⟨ret_bool HF.out.symm, rfl⟩
  · have HF : Hid (fitB s n = decide (n < 3)) := by simp [Hid, fitB, hv]
    go_enter Try.func50, Try.ntmps50
    go_wp2_with (go_at_call 40; refine (iValid_any _ _ hs).mono ?_; rintro e w' ⟨rfl, rfl⟩)
    go_ret
    exact ⟨ret_bool HF.out.symm, rfl⟩

set_option maxHeartbeats 400000 in
theorem iGreater_any (a b : ByteArray) (w : World) (ha : 1 < a.size) (hb : 1 < b.size) :
    Calls Try.prog 51 #[.string a, .string b] w fun e w' => e = .returned (.int .i64 (grtB a b)) ∧ ∃ n, w' = w.drewN n := by
  have ha' : (1 : Int) < (a.size : Int) := by omega
  have hb' : (1 : Int) < (b.size : Int) := by omega
  by_cases h : (a[1].toNat : Int) < (b[1].toNat : Int)
  · have HF : Hid (grtB a b = 1) := grtB_yes a b ha hb h
    go_enter Try.func51, Try.ntmps51
    go_wp2
    go_quiet (fail)
    go_wp2
    go_ret
    exact ⟨ret_int HF.out.symm, _, rfl⟩
  · have HF : Hid (grtB a b = 0) := grtB_no a b ha hb h
    go_enter Try.func51, Try.ntmps51
    go_wp2
    go_quiet (fail)
    go_wp2
    go_ret
    exact ⟨ret_int HF.out.symm, _, rfl⟩

set_option maxHeartbeats 400000 in
theorem rGreater_tt (a b : ByteArray) (w : World) (ha : 1 < a.size) (hb : 1 < b.size) :
    Calls Try.prog 42 #[.string a, .string b, .bool true, .bool true] w fun e w' => e = .returned (.int .i64 (grtB a b)) ∧ ∃ n, w' = w.drewN n := by
  have ha' : (1 : Int) < (a.size : Int) := by omega
  have hb' : (1 : Int) < (b.size : Int) := by omega
  by_cases h : (a[1].toNat : Int) < (b[1].toNat : Int)
  · have HF : Hid (grtB a b = 1) := grtB_yes a b ha hb h
    go_enter Try.func42, Try.ntmps42
    go_wp2
    go_quiet (fail)
    go_wp2
    go_ret
    exact ⟨ret_int HF.out.symm, _, rfl⟩
  · have HF : Hid (grtB a b = 0) := grtB_no a b ha hb h
    go_enter Try.func42, Try.ntmps42
    go_wp2
    go_quiet (fail)
    go_wp2
    go_ret
    exact ⟨ret_int HF.out.symm, _, rfl⟩

set_option maxHeartbeats 400000 in
theorem rGreater_tf (a b : ByteArray) (w : World) :
    Calls Try.prog 42 #[.string a, .string b, .bool true, .bool false] w fun e w' => e = .returned (.int .i64 0) ∧ ∃ n, w' = w.drewN n := by
  go_enter Try.func42, Try.ntmps42
  go_wp2
  go_quiet (fail)
  go_wp2
  go_ret
  exact ⟨rfl, _, rfl⟩

set_option maxHeartbeats 400000 in
theorem rGreater_ft (a b : ByteArray) (w : World) :
    Calls Try.prog 42 #[.string a, .string b, .bool false, .bool true] w fun e w' => e = .returned (.int .i64 1) ∧ ∃ n, w' = w.drewN n := by
  go_enter Try.func42, Try.ntmps42
  go_wp2
  go_quiet (fail)
  go_wp2
  go_ret
  exact ⟨rfl, _, rfl⟩

set_option maxHeartbeats 400000 in
theorem rGreater_ff (a b : ByteArray) (w : World) :
    Calls Try.prog 42 #[.string a, .string b, .bool false, .bool false] w fun e w' => e = .returned (.int .i64 (-1)) ∧ ∃ n, w' = w.drewN n := by
  go_enter Try.func42, Try.ntmps42
  go_wp2
  go_quiet (fail)
  go_wp2
  go_ret
  exact ⟨rfl, _, rfl⟩

theorem rGreater_any (a b : ByteArray) (x y : Bool) (w : World) (ha : x = true → a.size = 64) (hb : y = true → b.size = 64) :
    Calls Try.prog 42 #[.string a, .string b, .bool x, .bool y] w fun e w' => e = .returned (.int .i64 (pickB a b x y)) ∧ ∃ n, w' = w.drewN n := by
  cases x <;> cases y
  · exact rGreater_ff a b w
  · exact rGreater_ft a b w
  · exact rGreater_tf a b w
  · exact rGreater_tt a b w (by rw [ha rfl]; omega) (by rw [hb rfl]; omega)

set_option maxHeartbeats 400000 in
theorem iBest_any (a b : ByteArray) (m n : Int) (w : World) (ha : a.size ≤ maxLen) (hb : b.size ≤ maxLen) :
    Calls Try.prog 48 #[.string a, .string b, .agg #[.int .i64 m, .int .i64 n]] w fun e w' => e = .returned (.int .i64 (pickB a b (fitB a m) (fitB b n))) ∧ Below w.heap.size w w' := by
  have hx : fitB a m = true → a.size = 64 := fun h => vld_64 (fitB_vld h)
  have hy : fitB b n = true → b.size = 64 := fun h => vld_64 (fitB_vld h)
  generalize hX : fitB a m = x at hx
  generalize hY : fitB b n = y at hy
  have HX : Hid (fitB a m = x) := hX
  have HY : Hid (fitB b n = y) := hY
  clear hX hY
  go_enter Try.func48, Try.ntmps48
  go_wp2_with fail
  refine (iFit_any a m _ ha).mono ?_
  rintro e w1 ⟨rfl, rfl⟩
  rw [HX.out]
  go_wp2_with fail
  refine (iFit_any b n _ hb).mono ?_
  rintro e w1 ⟨rfl, rfl⟩
  rw [HY.out]
  have hB : ∀ o n, Below w.heap.size w ((w.alloc o).drewN n) := fun o n => below_drewN ((Below.refl _ _).alloc (Nat.le_refl _) o) n
  have hB0 : ∀ o, Below w.heap.size w (w.alloc o) := fun o => (Below.refl _ _).alloc (Nat.le_refl _) o
  cases x <;> cases y
  · go_wp2
    go_ret
    exact ⟨rfl, hB0 _⟩
  · go_wp2
    go_ret
    exact ⟨rfl, hB0 _⟩
  · go_wp2
    go_ret
    exact ⟨rfl, hB0 _⟩
  · have h1 : 1 < a.size := by rw [hx rfl]; omega
    have h2 : 1 < b.size := by rw [hy rfl]; omega
    clear hx hy
    go_wp2_with (go_at_call 51; refine (iGreater_any a b _ h1 h2).mono ?_; rintro e w' ⟨rfl, nq, rfl⟩)
    go_ret
    exact ⟨rfl, hB _ _⟩

set_option maxHeartbeats 400000 in
theorem iChoose_any (a b : ByteArray) (m n : Int) (w : World) (ha : a.size ≤ maxLen) (hb : b.size ≤ maxLen) :
    Calls Try.prog 41 #[.string a, .string b, .agg #[.int .i64 m, .int .i64 n]] w fun e w' => e = .returned (.int .i64 (chooseB a b m n)) ∧ Below w.heap.size w w' := by
  by_cases hp : pickB a b (fitB a m) (fitB b n) = -1
  · have HF : Hid (chooseB a b m n = pickB a b (vldB a) (vldB b)) := by unfold chooseB; rw [Hid, if_pos hp]
    have HP : Hid (pickB a b (fitB a m) (fitB b n) = -1) := hp
    clear hp
    go_enter Try.func41, Try.ntmps41
    go_wp2_with fail
    refine (iBest_any a b m n _ ha hb).mono ?_
    rintro e w1 ⟨rfl, h1⟩
    rw [HP.out]
    have k1 : Below w.heap.size w w1 := ((Below.refl _ w).alloc (Nat.le_refl _) _).trans (h1.mono (by simp))
    clear h1
    go_wp2_with fail
    refine (iBest_any a b 0 0 _ ha hb).mono ?_
    rintro e w2 ⟨rfl, h2⟩
    have k2 := k1.trans (h2.mono k1.size)
    rw [fitB_zero, fitB_zero, ← HF.out]
    go_wp2
    go_ret
    exact ⟨rfl, k2⟩
  · have HF : Hid (chooseB a b m n = pickB a b (fitB a m) (fitB b n)) := by unfold chooseB; rw [Hid, if_neg hp]
    have HP : (chooseB a b m n == -1) = false := by rw [HF.out]; simpa using hp
    clear hp
    go_enter Try.func41, Try.ntmps41
    go_wp2_with fail
    refine (iBest_any a b m n _ ha hb).mono ?_
    rintro e w1 ⟨rfl, h1⟩
    rw [← HF.out]
    have k1 : Below w.heap.size w w1 := ((Below.refl _ w).alloc (Nat.le_refl _) _).trans (h1.mono (by simp))
    clear h1
    go_wp2
    go_ret
    exact ⟨rfl, k1⟩

set_option maxHeartbeats 400000 in
theorem nChoose_any (a b : ByteArray) (m n : Int) (w : World) (ha : a.size ≤ maxLen) (hb : b.size ≤ maxLen) :
    Calls Try.prog 22 #[.string a, .string b, .agg #[.int .i64 m, .int .i64 n]] w fun e w' => e = .returned (.int .i64 (chooseB a b m n)) ∧ Below w.heap.size w w' := by
  go_enter Try.func22, Try.ntmps22
  go_wp2_with fail
  refine (iChoose_any a b m n _ ha hb).mono ?_
  rintro e w1 ⟨rfl, h1⟩
  have k1 : Below w.heap.size w w1 := ((Below.refl _ w).alloc (Nat.le_refl _) _).trans (h1.mono (by simp))
  clear h1
  go_wp2
  go_ret
  exact ⟨rfl, k1⟩

end Go.Proofs.Ytmkkeigcpkblkaa
