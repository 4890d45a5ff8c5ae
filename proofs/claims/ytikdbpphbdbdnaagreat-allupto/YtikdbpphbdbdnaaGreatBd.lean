/- Of several texts, one behind the other. -/
import Derived.Test.YtikdbpphbdbdnaaGreatBb
import Derived.Test.YtikdbpphbdbdnaaGreatBc
/- The document's Choose. -/
namespace Go.Proofs.YtikdbpphbdbdnaaGreat
open Go.RowKit

set_option maxHeartbeats 400000 in
theorem rChoose_ff_none (a b : ByteArray) (m n : Int) (w : World) (ha : a.size ≤ maxLen) (hb : b.size ≤ maxLen) (hva : vldB a = false) (hvb : vldB b = false) :
    Calls Tryz.prog 26 #[.string a, .string b, .agg #[.int .i64 m, .int .i64 n]] w fun e w' => e = .returned (.tuple #[.int .i64 (chooseB a b m n), .bool (anewB a b m n)]) ∧ Below w.heap.size w w' := by
  have hB : ∀ o n, Below w.heap.size w ((w.alloc o).drewN n) := fun o n => below_drewN ((Below.refl _ _).alloc (Nat.le_refl _) o) n
  have HX : Hid (fitB a m = false) := fitB_vf hva m
  have HY : Hid (fitB b n = false) := fitB_vf hvb n
  have HA : Hid (vldB a = false) := hva
  have HB : Hid (vldB b = false) := hvb
  obtain ⟨h1, h2, h3⟩ := chooseB_none (m := m) (n := n) hva hvb
  have HP : Hid (pickB a b (false) (false) = -1) := by rw [HX.out, HY.out] at h1; exact h1
  have H2 : Hid (chooseB a b m n = -1) := h2
  have H3 : Hid (anewB a b m n = false) := h3
  clear h1 h2 h3 hva hvb
  go_enter Tryz.func26, Tryz.ntmps26
  go_wp2_with fail
  refine (rValid_any a _ ha).mono ?_
  rintro e w1 ⟨rfl, rfl⟩
  rw [HA.out]
  go_wp2_with fail
  refine (rValid_any b _ hb).mono ?_
  rintro e w1 ⟨rfl, rfl⟩
  rw [HB.out]
  go_wp2_with fail
  refine (rGreater_any a b (false) (false) _ (by simp) (by simp)).mono ?_
  rintro e w1 ⟨rfl, nq, rfl⟩
  rw [HP.out]
  go_wp2
  go_ret2
  rw [H2.out, H3.out]
  exact ⟨rfl, hB _ _⟩

set_option maxHeartbeats 400000 in
theorem rChoose_ft_old (a b : ByteArray) (m n : Int) (w : World) (ha : a.size ≤ maxLen) (hb : b.size ≤ maxLen) (hva : vldB a = false) (hvb : vldB b = true) (hp : ¬ pickB a b (fitB a m) (fitB b n) = -1) :
    Calls Tryz.prog 26 #[.string a, .string b, .agg #[.int .i64 m, .int .i64 n]] w fun e w' => e = .returned (.tuple #[.int .i64 (chooseB a b m n), .bool (anewB a b m n)]) ∧ Below w.heap.size w w' := by
  have hB : ∀ o n, Below w.heap.size w ((w.alloc o).drewN n) := fun o n => below_drewN ((Below.refl _ _).alloc (Nat.le_refl _) o) n
  have fy : fitB b n = true → b.size = 64 := fun h => vld_64 (fitB_vld h)
  have HX : Hid (fitB a m = false) := fitB_vf hva m
  have HY : Hid (fitB b n = decide (n < 3)) := fitB_vt hvb n
  have HA : Hid (vldB a = false) := hva
  have HB : Hid (vldB b = true) := hvb
  obtain ⟨h2, h3⟩ := chooseB_old (m := m) (n := n) hp
  have hc : 0 ≤ chooseB a b m n := by rw [h2]; exact pickB_neg hp
  have HP : Hid (pickB a b (false) (decide (n < 3)) = chooseB a b m n) := by rw [HX.out, HY.out] at h2; exact h2.symm
  have H3 : Hid (anewB a b m n = false) := h3
  clear h2 h3 hva hvb hp
  go_enter Tryz.func26, Tryz.ntmps26
  go_wp2_with fail
  refine (rValid_any a _ ha).mono ?_
  rintro e w1 ⟨rfl, rfl⟩
  rw [HA.out]
  go_wp2_with fail
  refine (rValid_any b _ hb).mono ?_
  rintro e w1 ⟨rfl, rfl⟩
  rw [HB.out]
  go_wp2_with fail
  refine (rGreater_any a b (false) (decide (n < 3)) _ (by simp) (fun h => fy (HY.out.trans h))).mono ?_
  rintro e w1 ⟨rfl, nq, rfl⟩
  rw [HP.out]
  go_wp2
  go_ret2
  rw [H3.out]
  exact ⟨rfl, hB _ _⟩

set_option maxHeartbeats 400000 in
theorem rChoose_ft_new (a b : ByteArray) (m n : Int) (w : World) (ha : a.size ≤ maxLen) (hb : b.size ≤ maxLen) (hva : vldB a = false) (hvb : vldB b = true) (hp : pickB a b (fitB a m) (fitB b n) = -1) :
    Calls Tryz.prog 26 #[.string a, .string b, .agg #[.int .i64 m, .int .i64 n]] w fun e w' => e = .returned (.tuple #[.int .i64 (chooseB a b m n), .bool (anewB a b m n)]) ∧ Below w.heap.size w w' := by
  have hB : ∀ o n, Below w.heap.size w ((w.alloc o).drewN n) := fun o n => below_drewN ((Below.refl _ _).alloc (Nat.le_refl _) o) n
  have fy : fitB b n = true → b.size = 64 := fun h => vld_64 (fitB_vld h)
  have HX : Hid (fitB a m = false) := fitB_vf hva m
  have HY : Hid (fitB b n = decide (n < 3)) := fitB_vt hvb n
  have HA : Hid (vldB a = false) := hva
  have HB : Hid (vldB b = true) := hvb
  obtain ⟨h2, h3⟩ := chooseB_new (m := m) (n := n) hp (by rw [hva, hvb]; rfl)
  have HP : Hid (pickB a b (false) (decide (n < 3)) = -1) := by rw [HX.out, HY.out] at hp; exact hp
  have H2 : Hid (pickB a b false true = chooseB a b m n) := by rw [hva, hvb] at h2; exact h2.symm
  have H3 : Hid (anewB a b m n = true) := h3
  clear h2 h3 hva hvb hp
  go_enter Tryz.func26, Tryz.ntmps26
  go_wp2_with fail
  refine (rValid_any a _ ha).mono ?_
  rintro e w1 ⟨rfl, rfl⟩
  rw [HA.out]
  go_wp2_with fail
  refine (rValid_any b _ hb).mono ?_
  rintro e w1 ⟨rfl, rfl⟩
  rw [HB.out]
  go_wp2_with fail
  refine (rGreater_any a b (false) (decide (n < 3)) _ (by simp) (fun h => fy (HY.out.trans h))).mono ?_
  rintro e w1 ⟨rfl, nq, rfl⟩
  rw [HP.out]
  go_wp2_with fail
  refine (rGreater_any a b false true _ (by simp) (fun _ => vld_64 HB.out)).mono ?_
  rintro e w1 ⟨rfl, nq2, rfl⟩
  rw [H2.out]
  go_wp2
  go_ret2
  rw [H3.out]
  exact ⟨rfl, hB _ _⟩

set_option maxHeartbeats 400000 in
theorem rChoose_tf_old (a b : ByteArray) (m n : Int) (w : World) (ha : a.size ≤ maxLen) (hb : b.size ≤ maxLen) (hva : vldB a = true) (hvb : vldB b = false) (hp : ¬ pickB a b (fitB a m) (fitB b n) = -1) :
    Calls Tryz.prog 26 #[.string a, .string b, .agg #[.int .i64 m, .int .i64 n]] w fun e w' => e = .returned (.tuple #[.int .i64 (chooseB a b m n), .bool (anewB a b m n)]) ∧ Below w.heap.size w w' := by
  have hB : ∀ o n, Below w.heap.size w ((w.alloc o).drewN n) := fun o n => below_drewN ((Below.refl _ _).alloc (Nat.le_refl _) o) n
  have fx : fitB a m = true → a.size = 64 := fun h => vld_64 (fitB_vld h)
  have HX : Hid (fitB a m = decide (m < 3)) := fitB_vt hva m
  have HY : Hid (fitB b n = false) := fitB_vf hvb n
  have HA : Hid (vldB a = true) := hva
  have HB : Hid (vldB b = false) := hvb
  obtain ⟨h2, h3⟩ := chooseB_old (m := m) (n := n) hp
  have hc : 0 ≤ chooseB a b m n := by rw [h2]; exact pickB_neg hp
  have HP : Hid (pickB a b (decide (m < 3)) (false) = chooseB a b m n) := by rw [HX.out, HY.out] at h2; exact h2.symm
  have H3 : Hid (anewB a b m n = false) := h3
  clear h2 h3 hva hvb hp
  go_enter Tryz.func26, Tryz.ntmps26
  go_wp2_with fail
  refine (rValid_any a _ ha).mono ?_
  rintro e w1 ⟨rfl, rfl⟩
  rw [HA.out]
  go_wp2_with fail
  refine (rValid_any b _ hb).mono ?_
  rintro e w1 ⟨rfl, rfl⟩
  rw [HB.out]
  go_wp2_with fail
  refine (rGreater_any a b (decide (m < 3)) (false) _ (fun h => fx (HX.out.trans h)) (by simp)).mono ?_
  rintro e w1 ⟨rfl, nq, rfl⟩
  rw [HP.out]
  go_wp2
  go_ret2
  rw [H3.out]
  exact ⟨rfl, hB _ _⟩

set_option maxHeartbeats 400000 in
theorem rChoose_tf_new (a b : ByteArray) (m n : Int) (w : World) (ha : a.size ≤ maxLen) (hb : b.size ≤ maxLen) (hva : vldB a = true) (hvb : vldB b = false) (hp : pickB a b (fitB a m) (fitB b n) = -1) :
    Calls Tryz.prog 26 #[.string a, .string b, .agg #[.int .i64 m, .int .i64 n]] w fun e w' => e = .returned (.tuple #[.int .i64 (chooseB a b m n), .bool (anewB a b m n)]) ∧ Below w.heap.size w w' := by
  have hB : ∀ o n, Below w.heap.size w ((w.alloc o).drewN n) := fun o n => below_drewN ((Below.refl _ _).alloc (Nat.le_refl _) o) n
  have fx : fitB a m = true → a.size = 64 := fun h => vld_64 (fitB_vld h)
  have HX : Hid (fitB a m = decide (m < 3)) := fitB_vt hva m
  have HY : Hid (fitB b n = false) := fitB_vf hvb n
  have HA : Hid (vldB a = true) := hva
  have HB : Hid (vldB b = false) := hvb
  obtain ⟨h2, h3⟩ := chooseB_new (m := m) (n := n) hp (by rw [hva, hvb]; rfl)
  have HP : Hid (pickB a b (decide (m < 3)) (false) = -1) := by rw [HX.out, HY.out] at hp; exact hp
  have H2 : Hid (pickB a b true false = chooseB a b m n) := by rw [hva, hvb] at h2; exact h2.symm
  have H3 : Hid (anewB a b m n = true) := h3
  clear h2 h3 hva hvb hp
  go_enter Tryz.func26, Tryz.ntmps26
  go_wp2_with fail
  refine (rValid_any a _ ha).mono ?_
  rintro e w1 ⟨rfl, rfl⟩
  rw [HA.out]
  go_wp2_with fail
  refine (rValid_any b _ hb).mono ?_
  rintro e w1 ⟨rfl, rfl⟩
  rw [HB.out]
  go_wp2_with fail
  refine (rGreater_any a b (decide (m < 3)) (false) _ (fun h => fx (HX.out.trans h)) (by simp)).mono ?_
  rintro e w1 ⟨rfl, nq, rfl⟩
  rw [HP.out]
  go_wp2_with fail
  refine (rGreater_any a b true false _ (fun _ => vld_64 HA.out) (by simp)).mono ?_
  rintro e w1 ⟨rfl, nq2, rfl⟩
  rw [H2.out]
  go_wp2
  go_ret2
  rw [H3.out]
  exact ⟨rfl, hB _ _⟩

set_option maxHeartbeats 400000 in
theorem rChoose_tt_old (a b : ByteArray) (m n : Int) (w : World) (ha : a.size ≤ maxLen) (hb : b.size ≤ maxLen) (hva : vldB a = true) (hvb : vldB b = true) (hp : ¬ pickB a b (fitB a m) (fitB b n) = -1) :
    Calls Tryz.prog 26 #[.string a, .string b, .agg #[.int .i64 m, .int .i64 n]] w fun e w' => e = .returned (.tuple #[.int .i64 (chooseB a b m n), .bool (anewB a b m n)]) ∧ Below w.heap.size w w' := by
  have hB : ∀ o n, Below w.heap.size w ((w.alloc o).drewN n) := fun o n => below_drewN ((Below.refl _ _).alloc (Nat.le_refl _) o) n
  have fx : fitB a m = true → a.size = 64 := fun h => vld_64 (fitB_vld h)
  have fy : fitB b n = true → b.size = 64 := fun h => vld_64 (fitB_vld h)
  have HX : Hid (fitB a m = decide (m < 3)) := fitB_vt hva m
  have HY : Hid (fitB b n = decide (n < 3)) := fitB_vt hvb n
  have HA : Hid (vldB a = true) := hva
  have HB : Hid (vldB b = true) := hvb
  obtain ⟨h2, h3⟩ := chooseB_old (m := m) (n := n) hp
  have hc : 0 ≤ chooseB a b m n := by rw [h2]; exact pickB_neg hp
  have HP : Hid (pickB a b (decide (m < 3)) (decide (n < 3)) = chooseB a b m n) := by rw [HX.out, HY.out] at h2; exact h2.symm
  have H3 : Hid (anewB a b m n = false) := h3
  clear h2 h3 hva hvb hp
  go_enter Tryz.func26, Tryz.ntmps26
  go_wp2_with fail
  refine (rValid_any a _ ha).mono ?_
  rintro e w1 ⟨rfl, rfl⟩
  rw [HA.out]
  go_wp2_with fail
  refine (rValid_any b _ hb).mono ?_
  rintro e w1 ⟨rfl, rfl⟩
  rw [HB.out]
  go_wp2_with fail
  refine (rGreater_any a b (decide (m < 3)) (decide (n < 3)) _ (fun h => fx (HX.out.trans h)) (fun h => fy (HY.out.trans h))).mono ?_
  rintro e w1 ⟨rfl, nq, rfl⟩
  rw [HP.out]
  go_wp2
  go_ret2
  rw [H3.out]
  exact ⟨rfl, hB _ _⟩

set_option maxHeartbeats 400000 in
theorem rChoose_tt_new (a b : ByteArray) (m n : Int) (w : World) (ha : a.size ≤ maxLen) (hb : b.size ≤ maxLen) (hva : vldB a = true) (hvb : vldB b = true) (hp : pickB a b (fitB a m) (fitB b n) = -1) :
    Calls Tryz.prog 26 #[.string a, .string b, .agg #[.int .i64 m, .int .i64 n]] w fun e w' => e = .returned (.tuple #[.int .i64 (chooseB a b m n), .bool (anewB a b m n)]) ∧ Below w.heap.size w w' := by
  have hB : ∀ o n, Below w.heap.size w ((w.alloc o).drewN n) := fun o n => below_drewN ((Below.refl _ _).alloc (Nat.le_refl _) o) n
  have fx : fitB a m = true → a.size = 64 := fun h => vld_64 (fitB_vld h)
  have fy : fitB b n = true → b.size = 64 := fun h => vld_64 (fitB_vld h)
  have HX : Hid (fitB a m = decide (m < 3)) := fitB_vt hva m
  have HY : Hid (fitB b n = decide (n < 3)) := fitB_vt hvb n
  have HA : Hid (vldB a = true) := hva
  have HB : Hid (vldB b = true) := hvb
  obtain ⟨h2, h3⟩ := chooseB_new (m := m) (n := n) hp (by rw [hva, hvb]; rfl)
  have HP : Hid (pickB a b (decide (m < 3)) (decide (n < 3)) = -1) := by rw [HX.out, HY.out] at hp; exact hp
  have H2 : Hid (pickB a b true true = chooseB a b m n) := by rw [hva, hvb] at h2; exact h2.symm
  have H3 : Hid (anewB a b m n = true) := h3
  clear h2 h3 hva hvb hp
  go_enter Tryz.func26, Tryz.ntmps26
  go_wp2_with fail
  refine (rValid_any a _ ha).mono ?_
  rintro e w1 ⟨rfl, rfl⟩
  rw [HA.out]
  go_wp2_with fail
  refine (rValid_any b _ hb).mono ?_
  rintro e w1 ⟨rfl, rfl⟩
  rw [HB.out]
  go_wp2_with fail
  refine (rGreater_any a b (decide (m < 3)) (decide (n < 3)) _ (fun h => fx (HX.out.trans h)) (fun h => fy (HY.out.trans h))).mono ?_
  rintro e w1 ⟨rfl, nq, rfl⟩
  rw [HP.out]
  go_wp2_with fail
  refine (rGreater_any a b true true _ (fun _ => vld_64 HA.out) (fun _ => vld_64 HB.out)).mono ?_
  rintro e w1 ⟨rfl, nq2, rfl⟩
  rw [H2.out]
  go_wp2
  go_ret2
  rw [H3.out]
  exact ⟨rfl, hB _ _⟩

theorem rChoose_any (a b : ByteArray) (m n : Int) (w : World) (ha : a.size ≤ maxLen) (hb : b.size ≤ maxLen) :
    Calls Tryz.prog 26 #[.string a, .string b, .agg #[.int .i64 m, .int .i64 n]] w fun e w' => e = .returned (.tuple #[.int .i64 (chooseB a b m n), .bool (anewB a b m n)]) ∧ Below w.heap.size w w' := by
  cases hva : vldB a <;> cases hvb : vldB b
  · exact rChoose_ff_none a b m n w ha hb hva hvb
  all_goals by_cases hp : pickB a b (fitB a m) (fitB b n) = -1
  · exact rChoose_ft_new a b m n w ha hb hva hvb hp
  · exact rChoose_ft_old a b m n w ha hb hva hvb hp
  · exact rChoose_tf_new a b m n w ha hb hva hvb hp
  · exact rChoose_tf_old a b m n w ha hb hva hvb hp
  · exact rChoose_tt_new a b m n w ha hb hva hvb hp
  · exact rChoose_tt_old a b m n w ha hb hva hvb hp

end Go.Proofs.YtikdbpphbdbdnaaGreat

/- Build of both, and one step of the kinds Build, Valid and Choose. -/
namespace Go.Proofs.YtikdbpphbdbdnaaGreat
open Go.RowKit

theorem rBuild_any (s : ByteArray) (n : Int) (w : World) :
    Calls Tryz.prog 14 #[.string s, .int .i64 n] w fun e w' => e = .returned (.tuple #[.string (buildS s n), .int .i64 (buildE s n)]) ∧ Below w.heap.size w w' := by
  unfold buildS buildE
  by_cases h : 61 < s.size
  · rw [if_pos h, if_pos h]
    exact (rBuild_long s n w h).mono fun e w' he => ⟨he.1, by rw [he.2]; exact Below.refl _ _⟩
  · rw [if_neg h, if_neg h]
    by_cases hn : n < 0 ∨ 255 < n
    · rw [if_pos hn, if_pos hn]
      exact (rBuild_place s n w (by omega) hn).mono fun e w' he => ⟨he.1, by rw [he.2]; exact Below.refl _ _⟩
    · rw [if_neg hn, if_neg hn]
      exact rBuild_ok s n w (by omega) (by omega) (by omega)

theorem iBuild_any (s : ByteArray) (n : Int) (w : World) :
    Calls Tryz.prog 42 #[.string s, .int .i64 n] w fun e w' => e = .returned (.tuple #[.string (buildS s n), .int .i64 (buildE s n)]) ∧ Below w.heap.size w w' := by
  unfold buildS buildE
  by_cases h : 61 < s.size
  · rw [if_pos h, if_pos h]
    exact (iBuild_long s n w h).mono fun e w' he => ⟨he.1, by rw [he.2]; exact Below.refl _ _⟩
  · rw [if_neg h, if_neg h]
    by_cases hn : n < 0 ∨ 255 < n
    · rw [if_pos hn, if_pos hn]
      exact (iBuild_place s n w (by omega) hn).mono fun e w' he => ⟨he.1, by rw [he.2]; exact Below.refl _ _⟩
    · rw [if_neg hn, if_neg hn]
      exact iBuild_ok s n w (by omega) (by omega) (by omega)

set_option maxHeartbeats 400000 in
theorem nBuild_any (s : ByteArray) (n : Int) (w : World) :
    Calls Tryz.prog 21 #[.string s, .int .i64 n] w fun e w' => e = .returned (.tuple #[.string (buildS s n), .int .i64 (buildE s n)]) ∧ Below w.heap.size w w' := by
  go_enter Tryz.func21, Tryz.ntmps21
  go_wp2_with (go_at_call 42; refine (iBuild_any _ _ _).mono ?_; rintro e w' ⟨rfl, hb⟩)
  go_ret2
  exact ⟨rfl, hb⟩

set_option maxHeartbeats 400000 in
theorem num_any (n : Int) (w : World) : Calls Tryz.prog 22 #[.int .i64 n] w fun e w' => e = .returned (.int .i64 n) ∧ w' = w := by
  go_enter Tryz.func22, Tryz.ntmps22
  go_wp2
  go_ret
  exact ⟨rfl, rfl⟩


set_option maxHeartbeats 400000 in
theorem images_build (a b p q : Int) (s t : ByteArray) (l : Value) (w : World) :
    Calls Tryz.prog 12 #[.agg #[.int .i64 1, .int .i64 a, .int .i64 b, .string s, .string t, .int .i64 p, .int .i64 q, l]] w fun e w' => e = .returned (.bool true) ∧ Below w.heap.size w w' := by
  go_enter Tryz.func12, Tryz.ntmps12
  go_wp2_with fail
  refine (nBuild_any s a _).mono ?_
  rintro e w1 ⟨rfl, h1⟩
  obtain ⟨hc, hf⟩ := bcell h1
  have k1 : Below w.heap.size w w1 := ((Below.refl _ w).alloc (Nat.le_refl _) _).trans (h1.mono (by simp))
  go_wp2_with fail
  refine (rBuild_any s a _).mono ?_
  rintro e w2 ⟨rfl, h2⟩
  have k2 := k1.trans (h2.mono k1.size)
  go_wp2_with (go_at_call 22; refine (num_any _ _).mono ?_; rintro e w' ⟨rfl, rfl⟩)
  go_ret
  exact ⟨rfl, k2⟩

set_option maxHeartbeats 400000 in
theorem images_valid (a b p q : Int) (s t : ByteArray) (l : Value) (w : World) (hs : s.size ≤ maxLen) :
    Calls Tryz.prog 12 #[.agg #[.int .i64 2, .int .i64 a, .int .i64 b, .string s, .string t, .int .i64 p, .int .i64 q, l]] w fun e w' => e = .returned (.bool true) ∧ Below w.heap.size w w' := by
  go_enter Tryz.func12, Tryz.ntmps12
  go_wp2_with fail
  refine (nValid_any s _ hs).mono ?_
  rintro e w1 ⟨rfl, rfl⟩
  go_wp2_with fail
  refine (rValid_any s _ hs).mono ?_
  rintro e w2 ⟨rfl, rfl⟩
  go_wp2
  go_ret
  exact ⟨rfl, (Below.refl _ w).alloc (Nat.le_refl _) _⟩

set_option maxHeartbeats 400000 in
theorem images_choose (k a b p q : Int) (s t : ByteArray) (l : Value) (w : World) (h1 : (k == 1) = false) (h2 : (k == 2) = false) (hs : s.size ≤ maxLen) (ht : t.size ≤ maxLen) :
    Calls Tryz.prog 12 #[.agg #[.int .i64 k, .int .i64 a, .int .i64 b, .string s, .string t, .int .i64 p, .int .i64 q, l]] w fun e w' => e = .returned (.bool true) ∧ Below w.heap.size w w' := by
  go_enter Tryz.func12, Tryz.ntmps12
  go_wp2_with fail
  refine (nChoose_any s t p q _ hs ht).mono ?_
  rintro e w1 ⟨rfl, h1⟩
  obtain ⟨hc, hf⟩ := bcell h1
  have k1 : Below w.heap.size w w1 := ((Below.refl _ w).alloc (Nat.le_refl _) _).trans (h1.mono (by simp))
  go_wp2_with fail
  refine (rChoose_any s t p q _ hs ht).mono ?_
  rintro e w2 ⟨rfl, h2⟩
  have k2 := k1.trans (h2.mono k1.size)
  go_wp2
  go_ret
  exact ⟨rfl, k2⟩

theorem images_any (k a b p q : Int) (s t : ByteArray) (l : Value) (w : World) (hs : s.size ≤ maxLen) (ht : t.size ≤ maxLen) :
    Calls Tryz.prog 12 #[.agg #[.int .i64 k, .int .i64 a, .int .i64 b, .string s, .string t, .int .i64 p, .int .i64 q, l]] w fun e w' => e = .returned (.bool true) ∧ Below w.heap.size w w' := by
  by_cases h1 : k = 1
  · subst h1; exact images_build a b p q s t l w
  · by_cases h2 : k = 2
    · subst h2; exact images_valid a b p q s t l w hs
    · exact images_choose k a b p q s t l w (by simpa using h1) (by simpa using h2) hs ht

set_option maxHeartbeats 400000 in
theorem step_images (k a b p q : Int) (s t : ByteArray) (l x : Value) (w : World) (hs : s.size ≤ maxLen) (ht : t.size ≤ maxLen) (h1 : 1 ≤ k) (h3 : k ≤ 3) :
    Calls Tryz.prog 9 #[x, .agg #[.int .i64 k, .int .i64 a, .int .i64 b, .string s, .string t, .int .i64 p, .int .i64 q, l]] w fun e w' => e = .returned (.bool true) ∧ Below w.heap.size w w' := by
  go_enter Tryz.func9, Tryz.ntmps9
  go_wp2_with fail
  refine (images_any k a b p q s t l _ hs ht).mono ?_
  rintro e w1 ⟨rfl, h1⟩
  have k1 : Below w.heap.size w w1 := ((Below.refl _ w).alloc (Nat.le_refl _) _).trans (h1.mono (by simp))
  go_wp2
  go_ret
  exact ⟨rfl, k1⟩

end Go.Proofs.YtikdbpphbdbdnaaGreat
