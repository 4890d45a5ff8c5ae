/- The document's Choose. -/
import Derived.Test.YtommhbidkoeifaaGreatChoose
namespace Go.Proofs.YtommhbidkoeifaaGreat
open Go.RowKit

set_option maxHeartbeats 400000 in
theorem rChoose_ff_none (a b : ByteArray) (m n : Int) (w : World) (ha : a.size ≤ maxLen) (hb : b.size ≤ maxLen) (hva : vldB a = false) (hvb : vldB b = false) :
    Calls Tryz.prog 24 #[.string a, .string b, .agg #[.int .i64 m, .int .i64 n]] w fun e w' => e = .returned (.tuple #[.int .i64 (chooseB a b m n), .bool (anewB a b m n)]) ∧ Below w.heap.size w w' := by
  have hB : ∀ o n, Below w.heap.size w ((w.alloc o).drewN n) := fun o n => below_drewN ((Below.refl _ _).alloc (Nat.le_refl _) o) n
  have HX : Hid (fitB a m = false) := fitB_vf hva m
  have HY : Hid (fitB b n = false) := fitB_vf hvb n
  have HA : Hid (vldB a = false) := hva
  have HB : Hid (vldB b = false) := hvb
  obtain ⟨h1, h2, h3⟩ := chooseB_none (m := m) (n := n) hva hvb
  have HP : Hid (pickB a b (false) (false) = -1) := by rw [HX.out, HY.out] at h1; exact h1
  have H2 : Hid (chooseB a b m n = -1) := h2
  have H3 : Hid (anewB a b m n = false) := h3
  clear h1 h2 h3 hva hvb
  go_enter Tryz.func24, Tryz.ntmps24
  go_wp2_with fail
  refine (rValid_any a _ ha).mono ?_
  rintro e w1 ⟨rfl, rfl⟩
  rw [HA.out]
  go_wp2_with fail
  refine (rValid_any b _ hb).mono ?_
  rintro e w1 ⟨rfl, rfl⟩
  rw [HB.out]
  go_wp2_with fail
  refine (rGreater_any a b (false) (false) _ (by simp) (by simp)).mono ?_
  rintro e w1 ⟨rfl, nq, rfl⟩
  rw [HP.out]
  go_wp2
  go_ret2
  rw [H2.out, H3.out]
  exact ⟨rfl, hB _ _⟩

set_option maxHeartbeats 400000 in
theorem rChoose_ft_old (a b : ByteArray) (m n : Int) (w : World) (ha : a.size ≤ maxLen) (hb : b.size ≤ maxLen) (hva : vldB a = false) (hvb : vldB b = true) (hp : ¬ pickB a b (fitB a m) (fitB b n) = -1) :
    Calls Tryz.prog 24 #[.string a, .string b, .agg #[.int .i64 m, .int .i64 n]] w fun e w' => e = .returned (.tuple #[.int .i64 (chooseB a b m n), .bool (anewB a b m n)]) ∧ Below w.heap.size w w' := by
  have hB : ∀ o n, Below w.heap.size w ((w.alloc o).drewN n) := fun o n => below_drewN ((Below.refl _ _).alloc (Nat.le_refl _) o) n
  have fy : fitB b n = true → b.size = 64 := fun h => vld_64 (fitB_vld h)
  have HX : Hid (fitB a m = false) := fitB_vf hva m
  have HY : Hid (fitB b n = decide (n < 3)) := fitB_vt hvb n
  have HA : Hid (vldB a = false) := hva
  have HB : Hid (vldB b = true) := hvb
  obtain ⟨h2, h3⟩ := chooseB_old (m := m) (n := n) hp
  have hc : 0 ≤ chooseB a b m n := by rw [h2]; exact pickB_neg hp
  have HP : Hid (pickB a b (false) (decide (n < 3)) = chooseB a b m n) := by rw [HX.out, HY.out] at h2; exact h2.symm
  have H3 : Hid (anewB a b m n = false) := h3
  clear h2 h3 hva hvb hp
  go_enter Tryz.func24, Tryz.ntmps24
  go_wp2_with fail
  refine (rValid_any a _ ha).mono ?_
  rintro e w1 ⟨rfl, rfl⟩
  rw [HA.out]
  go_wp2_with fail
  refine (rValid_any b _ hb).mono ?_
  rintro e w1 ⟨rfl, rfl⟩
  rw [HB.out]
  go_wp2_with fail
  refine (rGreater_any a b (false) (decide (n < 3)) _ (by simp) (fun h => fy (HY.out.trans h))).mono ?_
  rintro e w1 ⟨rfl, nq, rfl⟩
  rw [HP.out]
  go_wp2
  go_ret2
  rw [H3.out]
  exact ⟨rfl, hB _ _⟩

set_option maxHeartbeats 400000 in
theorem rChoose_ft_new (a b : ByteArray) (m n : Int) (w : World) (ha : a.size ≤ maxLen) (hb : b.size ≤ maxLen) (hva : vldB a = false) (hvb : vldB b = true) (hp : pickB a b (fitB a m) (fitB b n) = -1) :
    Calls Tryz.prog 24 #[.string a, .string b, .agg #[.int .i64 m, .int .i64 n]] w fun e w' => e = .returned (.tuple #[.int .i64 (chooseB a b m n), .bool (anewB a b m n)]) ∧ Below w.heap.size w w' := by
  have hB : ∀ o n, Below w.heap.size w ((w.alloc o).drewN n) := fun o n => below_drewN ((Below.refl _ _).alloc (Nat.le_refl _) o) n
  have fy : fitB b n = true → b.size = 64 := fun h => vld_64 (fitB_vld h)
  have HX : Hid (fitB a m = false) := fitB_vf hva m
  have HY : Hid (fitB b n = decide (n < 3)) := fitB_vt hvb n
  have HA : Hid (vldB a = false) := hva
  have HB : Hid (vldB b = true) := hvb
  obtain ⟨h2, h3⟩ := chooseB_new (m := m) (n := n) hp (by rw [hva, hvb]; rfl)
  have HP : Hid (pickB a b (false) (decide (n < 3)) = -1) := by rw [HX.out, HY.out] at hp; exact hp
  have H2 : Hid (pickB a b false true = chooseB a b m n) := by rw [hva, hvb] at h2; exact h2.symm
  have H3 : Hid (anewB a b m n = true) := h3
  clear h2 h3 hva hvb hp
  go_enter Tryz.func24, Tryz.ntmps24
  go_wp2_with fail
  refine (rValid_any a _ ha).mono ?_
  rintro e w1 ⟨rfl, rfl⟩
  rw [HA.out]
  go_wp2_with fail
  refine (rValid_any b _ hb).mono ?_
  rintro e w1 ⟨rfl, rfl⟩
  rw [HB.out]
  go_wp2_with fail
  refine (rGreater_any a b (false) (decide (n < 3)) _ (by simp) (fun h => fy (HY.out.trans h))).mono ?_
  rintro e w1 ⟨rfl, nq, rfl⟩
  rw [HP.out]
  go_wp2_with fail
  refine (rGreater_any a b false true _ (by simp) (fun _ => vld_64 HB.out)).mono ?_
  rintro e w1 ⟨rfl, nq2, rfl⟩
  rw [H2.out]
  go_wp2
  go_ret2
  rw [H3.out]
  exact ⟨rfl, hB _ _⟩

set_option maxHeartbeats 400000 in
theorem rChoose_tf_old (a b : ByteArray) (m n : Int) (w : World) (ha : a.size ≤ maxLen) (hb : b.size ≤ maxLen) (hva : vldB a = true) (hvb : vldB b = false) (hp : ¬ pickB a b (fitB a m) (fitB b n) = -1) :
    Calls Tryz.prog 24 #[.string a, .string b, .agg #[.int .i64 m, .int .i64 n]] w fun e w' => e = .returned (.tuple #[.int .i64 (chooseB a b m n), .bool (anewB a b m n)]) ∧ Below w.heap.size w w' := by
  have hB : ∀ o n, Below w.heap.size w ((w.alloc o).drewN n) := fun o n => below_drewN ((Below.refl _ _).alloc (Nat.le_refl _) o) n
  have fx : fitB a m = true → a.size = 64 := fun h => vld_64 (fitB_vld h)
  have HX : Hid (fitB a m = decide (m < 3)) := fitB_vt hva m
  have HY : Hid (fitB b n = false) := fitB_vf hvb n
  have HA : Hid (vldB a = true) := hva
  have HB : Hid (vldB b = false) := hvb
  obtain ⟨h2, h3⟩ := chooseB_old (m := m) (n := n) hp
  have hc : 0 ≤ chooseB a b m n := by rw [h2]; exact pickB_neg hp
  have HP : Hid (pickB a b (decide (m < 3)) (false) = chooseB a b m n) := by rw [HX.out, HY.out] at h2; exact h2.symm
  have H3 : Hid (anewB a b m n = false) := h3
  clear h2 h3 hva hvb hp
  go_enter Tryz.func24, Tryz.ntmps24
  go_wp2_with fail
  refine (rValid_any a _ ha).mono ?_
  rintro e w1 ⟨rfl, rfl⟩
  rw [HA.out]
  go_wp2_with fail
  refine (rValid_any b _ hb).mono ?_
  rintro e w1 ⟨rfl, rfl⟩
  rw [HB.out]
  go_wp2_with fail
  refine (rGreater_any a b (decide (m < 3)) (false) _ (fun h => fx (HX.out.trans h)) (by simp)).mono ?_
  rintro e w1 ⟨rfl, nq, rfl⟩
  rw [HP.out]
  go_wp2
  go_ret2
  rw [H3.out]
  exact ⟨rfl, hB _ _⟩

set_option maxHeartbeats 400000 in
theorem rChoose_tf_new (a b : ByteArray) (m n : Int) (w : World) (ha : a.size ≤ maxLen) (hb : b.size ≤ maxLen) (hva : vldB a = true) (hvb : vldB b = false) (hp : pickB a b (fitB a m) (fitB b n) = -1) :
    Calls Tryz.prog 24 #[.string a, .string b, .agg #[.int .i64 m, .int .i64 n]] w fun e w' => e = .returned (.tuple #[.int .i64 (chooseB a b m n), .bool (anewB a b m n)]) ∧ Below w.heap.size w w' := by
  have hB : ∀ o n, Below w.heap.size w ((w.alloc o).drewN n) := fun o n => below_drewN ((Below.refl _ _).alloc (Nat.le_refl _) o) n
  have fx : fitB a m = true → a.size = 64 := fun h => vld_64 (fitB_vld h)
  have HX : Hid (fitB a m = decide (m < 3)) := fitB_vt hva m
  have HY : Hid (fitB b n = false) := fitB_vf hvb n
  have HA : Hid (vldB a = true) := hva
  have HB : Hid (vldB b = false) := hvb
  obtain ⟨h2, h3⟩ := chooseB_new (m := m) (n := n) hp (by rw [hva, hvb]; rfl)
  have HP : Hid (pickB a b (decide (m < 3)) (false) = -1) := by rw [HX.out, HY.out] at hp; exact hp
  have H2 : Hid (pickB a b true false = chooseB a b m n) := by rw [hva, hvb] at h2; exact h2.symm
  have H3 : Hid (anewB a b m n = true) := h3
  clear h2 h3 hva hvb hp
  go_enter Tryz.func24, Tryz.ntmps24
  go_wp2_with fail
  refine (rValid_any a _ ha).mono ?_
  rintro e w1 ⟨rfl, rfl⟩
  rw [HA.out]
  go_wp2_with fail
  refine (rValid_any b _ hb).mono ?_
  rintro e w1 ⟨rfl, rfl⟩
  rw [HB.out]
  go_wp2_with fail
  refine (rGreater_any a b (decide (m < 3)) (false) _ (fun h => fx (HX.out.trans h)) (by simp)).mono ?_
  rintro e w1 ⟨rfl, nq, rfl⟩
  rw [HP.out]
  go_wp2_with fail
  refine (rGreater_any a b true false _ (fun _ => vld_64 HA.out) (by simp)).mono ?_
  rintro e w1 ⟨rfl, nq2, rfl⟩
  rw [H2.out]
  go_wp2
  go_ret2
  rw [H3.out]
  exact ⟨rfl, hB _ _⟩

set_option maxHeartbeats 400000 in
theorem rChoose_tt_old (a b : ByteArray) (m n : Int) (w : World) (ha : a.size ≤ maxLen) (hb : b.size ≤ maxLen) (hva : vldB a = true) (hvb : vldB b = true) (hp : ¬ pickB a b (fitB a m) (fitB b n) = -1) :
    Calls Tryz.prog 24 #[.string a, .string b, .agg #[.int .i64 m, .int .i64 n]] w fun e w' => e = .returned (.tuple #[.int .i64 (chooseB a b m n), .bool (anewB a b m n)]) ∧ Below w.heap.size w w' := by
  have hB : ∀ o n, Below w.heap.size w ((w.alloc o).drewN n) := fun o n => below_drewN ((Below.refl _ _).alloc (Nat.le_refl _) o) n
  have fx : fitB a m = true → a.size = 64 := fun h => vld_64 (fitB_vld h)
  have fy : fitB b n = true → b.size = 64 := fun h => vld_64 (fitB_vld h)
  have HX : Hid (fitB a m = decide (m < 3)) := fitB_vt hva m
  have HY : Hid (fitB b n = decide (n < 3)) := fitB_vt hvb n
  have HA : Hid (vldB a = true) := hva
  have HB : Hid (vldB b = true) := hvb
  obtain ⟨h2, h3⟩ := chooseB_old (m := m) (n := n) hp
  have hc : 0 ≤ chooseB a b m n := by rw [h2]; exact pickB_neg hp
  have HP : Hid (pickB a b (decide (m < 3)) (decide (n < 3)) = chooseB a b m n) := by rw [HX.out, HY.out] at h2; exact h2.symm
  have H3 : Hid (anewB a b m n = false) := h3
  clear h2 h3 hva hvb hp
  go_enter Tryz.func24, Tryz.ntmps24
  go_wp2_with fail
  refine (rValid_any a _ ha).mono ?_
  rintro e w1 ⟨rfl, rfl⟩
  rw [HA.out]
  go_wp2_with fail
  refine (rValid_any b _ hb).mono ?_
  rintro e w1 ⟨rfl, rfl⟩
  rw [HB.out]
  go_wp2_with fail
  refine (rGreater_any a b (decide (m < 3)) (decide (n < 3)) _ (fun h => fx (HX.out.trans h)) (fun h => fy (HY.out.trans h))).mono ?_
  rintro e w1 ⟨rfl, nq, rfl⟩
  rw [HP.out]
  go_wp2
  go_ret2
  rw [H3.out]
  exact ⟨rfl, hB _ _⟩

set_option maxHeartbeats 400000 in
theorem rChoose_tt_new (a b : ByteArray) (m n : Int) (w : World) (ha : a.size ≤ maxLen) (hb : b.size ≤ maxLen) (hva : vldB a = true) (hvb : vldB b = true) (hp : pickB a b (fitB a m) (fitB b n) = -1) :
    Calls Tryz.prog 24 #[.string a, .string b, .agg #[.int .i64 m, .int .i64 n]] w fun e w' => e = .returned (.tuple #[.int .i64 (chooseB a b m n), .bool (anewB a b m n)]) ∧ Below w.heap.size w w' := by
  have hB : ∀ o n, Below w.heap.size w ((w.alloc o).drewN n) := fun o n => below_drewN ((Below.refl _ _).alloc (Nat.le_refl _) o) n
  have fx : fitB a m = true → a.size = 64 := fun h => vld_64 (fitB_vld h)
  have fy : fitB b n = true → b.size = 64 := fun h => vld_64 (fitB_vld h)
  have HX : Hid (fitB a m = decide (m < 3)) := fitB_vt hva m
  have HY : Hid (fitB b n = decide (n < 3)) := fitB_vt hvb n
  have HA : Hid (vldB a = true) := hva
  have HB : Hid (vldB b = true) := hvb
  obtain ⟨h2, h3⟩ := chooseB_new (m := m) (n := n) hp (by rw [hva, hvb]; rfl)
  have HP : Hid (pickB a b (decide (m < 3)) (decide (n < 3)) = -1) := by rw [HX.out, HY.out] at hp; exact hp
  have H2 : Hid (pickB a b true true = chooseB a b m n) := by rw [hva, hvb] at h2; exact h2.symm
  have H3 : Hid (anewB a b m n = true) := h3
  clear h2 h3 hva hvb hp
  go_enter Tryz.func24, Tryz.ntmps24
  go_wp2_with fail
  refine (rValid_any a _ ha).mono ?_
  rintro e w1 ⟨rfl, rfl⟩
  rw [HA.out]
  go_wp2_with fail
  refine (rValid_any b _ hb).mono ?_
  rintro e w1 ⟨rfl, rfl⟩
  rw [HB.out]
  go_wp2_with fail
  refine (rGreater_any a b (decide (m < 3)) (decide (n < 3)) _ (fun h => fx (HX.out.trans h)) (fun h => fy (HY.out.trans h))).mono ?_
  rintro e w1 ⟨rfl, nq, rfl⟩
  rw [HP.out]
  go_wp2_with fail
  refine (rGreater_any a b true true _ (fun _ => vld_64 HA.out) (fun _ => vld_64 HB.out)).mono ?_
  rintro e w1 ⟨rfl, nq2, rfl⟩
  rw [H2.out]
  go_wp2
  go_ret2
  rw [H3.out]
  exact ⟨rfl, hB _ _⟩

theorem rChoose_any (a b : ByteArray) (m n : Int) (w : World) (ha : a.size ≤ maxLen) (hb : b.size ≤ maxLen) :
    Calls Tryz.prog 24 #[.string a, .string b, .agg #[.int .i64 m, .int .i64 n]] w fun e w' => e = .returned (.tuple #[.int .i64 (chooseB a b m n), .bool (anewB a b m n)]) ∧ Below w.heap.size w w' := by
  cases hva : vldB a <;> cases hvb : vldB b
  · exact rChoose_ff_none a b m n w ha hb hva hvb
  all_goals by_cases hp : pickB a b (fitB a m) (fitB b n) = -1
  · exact rChoose_ft_new a b m n w ha hb hva hvb hp
  · exact rChoose_ft_old a b m n w ha hb hva hvb hp
  · exact rChoose_tf_new a b m n w ha hb hva hvb hp
  · exact rChoose_tf_old a b m n w ha hb hva hvb hp
  · exact rChoose_tt_new a b m n w ha hb hva hvb hp
  · exact rChoose_tt_old a b m n w ha hb hva hvb hp

end Go.Proofs.YtommhbidkoeifaaGreat
