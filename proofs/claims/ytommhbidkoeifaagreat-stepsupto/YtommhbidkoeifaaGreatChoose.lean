/- fit, greater, best, Choose: of the program and of the document. -/
import Derived.Test.YtommhbidkoeifaaGreatValid
namespace Go.Proofs.YtommhbidkoeifaaGreat
open Go.RowKit

set_option maxHeartbeats 400000 in
theorem iFit_any (s : ByteArray) (n : Int) (w : World) (hs : s.size ≤ maxLen) :
    Calls Tryz.prog 69 #[.string s, .int .i64 n] w fun e w' => e = .returned (.bool (fitB s n)) ∧ w' = w := by
  cases hv : vldB s
  · have HF : Hid (fitB s n = false) := by simp [Hid, fitB, hv]
    go_enter Tryz.func69, Tryz.ntmps69
    go_wp2_with (go_at_call 41; refine (iValid_any _ _ hs).mono ?_; rintro e w' ⟨rfl, rfl⟩)
    go_ret
    exact ⟨ret_bool HF.out.symm, rfl⟩
  · have HF : Hid (fitB s n = decide (n < 3)) := by simp [Hid, fitB, hv]
    go_enter Tryz.func69, Tryz.ntmps69
    go_wp2_with (go_at_call 41; refine (iValid_any _ _ hs).mono ?_; rintro e w' ⟨rfl, rfl⟩)
    go_ret
    exact ⟨ret_bool HF.out.symm, rfl⟩

set_option maxHeartbeats 400000 in
theorem iGreater_any (a b : ByteArray) (w : World) (ha : 1 < a.size) (hb : 1 < b.size) :
    Calls Tryz.prog 70 #[.string a, .string b] w fun e w' => e = .returned (.int .i64 (grtB a b)) ∧ ∃ n, w' = w.drewN n := by
  have ha' : (1 : Int) < (a.size : Int) := by omega
  have hb' : (1 : Int) < (b.size : Int) := by omega
  by_cases h : (a[1].toNat : Int) < (b[1].toNat : Int)
  · have HF : Hid (grtB a b = 1) := grtB_yes a b ha hb h
    go_enter Tryz.func70, Tryz.ntmps70
    go_wp2
    go_quiet (fail)
    go_wp2
    go_ret
    exact ⟨ret_int HF.out.symm, _, rfl⟩
  · have HF : Hid (grtB a b = 0) := grtB_no a b ha hb h
    go_enter Tryz.func70, Tryz.ntmps70
    go_wp2
    go_quiet (fail)
    go_wp2
    go_ret
    exact ⟨ret_int HF.out.symm, _, rfl⟩

set_option maxHeartbeats 400000 in
theorem rGreater_tt (a b : ByteArray) (w : World) (ha : 1 < a.size) (hb : 1 < b.size) :
    Calls Tryz.prog 43 #[.string a, .string b, .bool true, .bool true] w fun e w' => e = .returned (.int .i64 (grtB a b)) ∧ ∃ n, w' = w.drewN n := by
  have ha' : (1 : Int) < (a.size : Int) := by omega
  have hb' : (1 : Int) < (b.size : Int) := by omega
  by_cases h : (a[1].toNat : Int) < (b[1].toNat : Int)
  · have HF : Hid (grtB a b = 1) := grtB_yes a b ha hb h
    go_enter Tryz.func43, Tryz.ntmps43
    go_wp2
    go_quiet (fail)
    go_wp2
    go_ret
    exact ⟨ret_int HF.out.symm, _, rfl⟩
  · have HF : Hid (grtB a b = 0) := grtB_no a b ha hb h
    go_enter Tryz.func43, Tryz.ntmps43
    go_wp2
    go_quiet (fail)
    go_wp2
    go_ret
    exact ⟨ret_int HF.out.symm, _, rfl⟩

set_option maxHeartbeats 400000 in
theorem rGreater_tf (a b : ByteArray) (w : World) :
    Calls Tryz.prog 43 #[.string a, .string b, .bool true, .bool false] w fun e w' => e = .returned (.int .i64 0) ∧ ∃ n, w' = w.drewN n := by
  go_enter Tryz.func43, Tryz.ntmps43
  go_wp2
  go_quiet (fail)
  go_wp2
  go_ret
  exact ⟨rfl, _, rfl⟩

set_option maxHeartbeats 400000 in
theorem rGreater_ft (a b : ByteArray) (w : World) :
    Calls Tryz.prog 43 #[.string a, .string b, .bool false, .bool true] w fun e w' => e = .returned (.int .i64 1) ∧ ∃ n, w' = w.drewN n := by
  go_enter Tryz.func43, Tryz.ntmps43
  go_wp2
  go_quiet (fail)
  go_wp2
  go_ret
  exact ⟨rfl, _, rfl⟩

set_option maxHeartbeats 400000 in
theorem rGreater_ff (a b : ByteArray) (w : World) :
    Calls Tryz.prog 43 #[.string a, .string b, .bool false, .bool false] w fun e w' => e = .returned (.int .i64 (-1)) ∧ ∃ n, w' = w.drewN n := by
  go_enter Tryz.func43, Tryz.ntmps43
  go_wp2
  go_quiet (fail)
  go_wp2
  go_ret
  exact ⟨rfl, _, rfl⟩

theorem rGreater_any (a b : ByteArray) (x y : Bool) (w : World) (ha : x = true → a.size = 64) (hb : y = true → b.size = 64) :
    Calls Tryz.prog 43 #[.string a, .string b, .bool x, .bool y] w fun e w' => e = .returned (.int .i64 (pickB a b x y)) ∧ ∃ n, w' = w.drewN n := by
  cases x <;> cases y
  · exact rGreater_ff a b w
  · exact rGreater_ft a b w
  · exact rGreater_tf a b w
  · exact rGreater_tt a b w (by rw [ha rfl]; omega) (by rw [hb rfl]; omega)

set_option maxHeartbeats 400000 in
theorem iBest_any (a b : ByteArray) (m n : Int) (w : World) (ha : a.size ≤ maxLen) (hb : b.size ≤ maxLen) :
    Calls Tryz.prog 57 #[.string a, .string b, .agg #[.int .i64 m, .int .i64 n]] w fun e w' => e = .returned (.int .i64 (pickB a b (fitB a m) (fitB b n))) ∧ Below w.heap.size w w' := by
  have hx : fitB a m = true → a.size = 64 := fun h => vld_64 (fitB_vld h)
  have hy : fitB b n = true → b.size = 64 := fun h => vld_64 (fitB_vld h)
  generalize hX : fitB a m = x at hx
  generalize hY : fitB b n = y at hy
  have HX : Hid (fitB a m = x) := hX
  have HY : Hid (fitB b n = y) := hY
  clear hX hY
  go_enter Tryz.func57, Tryz.ntmps57
  go_wp2_with fail
  refine (iFit_any a m _ ha).mono ?_
  rintro e w1 ⟨rfl, rfl⟩
  rw [HX.out]
  go_wp2_with fail
  refine (iFit_any b n _ hb).mono ?_
  rintro e w1 ⟨rfl, rfl⟩
  rw [HY.out]
  have hB : ∀ o n, Below w.heap.size w ((w.alloc o).drewN n) := fun o n => below_drewN ((Below.refl _ _).alloc (Nat.le_refl _) o) n
  have hB0 : ∀ o, Below w.heap.size w (w.alloc o) := fun o => (Below.refl _ _).alloc (Nat.le_refl _) o
  cases x <;> cases y
  · go_wp2
    go_ret
    exact ⟨rfl, hB0 _⟩
  · go_wp2
    go_ret
    exact ⟨rfl, hB0 _⟩
  · go_wp2
    go_ret
    exact ⟨rfl, hB0 _⟩
  · have h1 : 1 < a.size := by rw [hx rfl]; omega
    have h2 : 1 < b.size := by rw [hy rfl]; omega
    clear hx hy
    go_wp2_with (go_at_call 70; refine (iGreater_any a b _ h1 h2).mono ?_; rintro e w' ⟨rfl, nq, rfl⟩)
    go_ret
    exact ⟨rfl, hB _ _⟩

theorem bcell {W w1 : World} (hb : Below W.heap.size W w1) : (∀ b o, b < W.heap.size → w1.cell? ⟨b, o, none⟩ = W.cell? ⟨b, o, none⟩) ∧ (∀ b o, b < W.heap.size → w1.frozen? ⟨b, o, none⟩ = W.frozen? ⟨b, o, none⟩) :=
  ⟨fun b o h => hb.cell (p := ⟨b, o, none⟩) h, fun b o h => hb.frozen (p := ⟨b, o, none⟩) h⟩

/-- Strikes behind the choice. -/
def leftS (a b : ByteArray) (m n k : Int) : Int := if anewB a b m n = true then 0 else k

theorem results_tmp_cell {fn : Func} {p u : Tmp} {ty : TypeId} (h : fn.results = #[.tmp u, .cell p ty]) (tmps : Array Value) (P : Program) (w : World) :
    (results fn tmps).run P w =
      ((asAddr (tmps.getD p undef)).run P w).andThen fun a w₁ => ((loadVar ty a).run P w₁).andThen fun v w₂ => .ok (.tuple #[tmps.getD u undef, v]) w₂ := by
  simp only [results, h]
  simp [Sem.run_bind, Result.andThen]

/-- Two blocks that are new, and what stays of them. -/
theorem two_new {w w1 : World} {a b : Obj} (h : Below ((w.alloc a).alloc b).heap.size ((w.alloc a).alloc b) w1) :
    Below w.heap.size w w1 ∧ w.heap.size + 1 < w1.heap.size ∧ (∀ o, w1.cell? ⟨w.heap.size, o, none⟩ = ((w.alloc a).alloc b).cell? ⟨w.heap.size, o, none⟩) ∧ (∀ o, w1.cell? ⟨w.heap.size + 1, o, none⟩ = ((w.alloc a).alloc b).cell? ⟨w.heap.size + 1, o, none⟩) ∧ (∀ o, w1.frozen? ⟨w.heap.size, o, none⟩ = ((w.alloc a).alloc b).frozen? ⟨w.heap.size, o, none⟩) ∧ (∀ o, w1.frozen? ⟨w.heap.size + 1, o, none⟩ = ((w.alloc a).alloc b).frozen? ⟨w.heap.size + 1, o, none⟩) := by
  have hs : ((w.alloc a).alloc b).heap.size = w.heap.size + 1 + 1 := by simp
  obtain ⟨hc, hf⟩ := bcell h
  rw [hs] at hc hf
  refine ⟨(((Below.refl _ w).alloc (Nat.le_refl _) _).alloc (by simp) _).trans (h.mono (by simp; omega)), by have := h.size; rw [hs] at this; omega, fun o => hc _ _ (by omega), fun o => hc _ _ (by omega), fun o => hf _ _ (by omega), fun o => hf _ _ (by omega)⟩

set_option maxHeartbeats 400000 in
theorem iDecide_any (a b : ByteArray) (m n : Int) (w : World) (ha : a.size ≤ maxLen) (hb : b.size ≤ maxLen) :
    Calls Tryz.prog 51 #[.string a, .string b, .agg #[.int .i64 m, .int .i64 n]] w fun e w' => e = .returned (.tuple #[.int .i64 (chooseB a b m n), .agg #[.int .i64 (leftS a b m n m), .int .i64 (leftS a b m n n)]]) ∧ Below w.heap.size w w' := by
  have hset : ∀ (W : World) (o : Nat) (v : Value), Below w.heap.size w W → Below w.heap.size w (W.setCell ⟨w.heap.size + 1, o, none⟩ v) := fun W o v h => h.setCell (by show w.heap.size ≤ w.heap.size + 1; omega) v
  by_cases hp : pickB a b (fitB a m) (fitB b n) = -1
  · have HP : Hid (pickB a b (fitB a m) (fitB b n) = -1) := hp
    by_cases hv : (vldB a || vldB b) = true
    · obtain ⟨q1, q2⟩ := chooseB_new (m := m) (n := n) hp hv
      have HF : Hid (chooseB a b m n = pickB a b (vldB a) (vldB b)) := q1
      have H0 : Hid (∀ k, leftS a b m n k = 0) := fun k => by unfold leftS; rw [q2]; rfl
      have HN : (chooseB a b m n == -1) = false := by
        rw [q1]
        have hg := grtB_cases a b
        revert hv
        cases vldB a <;> cases vldB b <;> simp [pickB] <;> omega
      clear hp hv q1 q2
      go_enter Tryz.func51, Tryz.ntmps51
      go_wp2_with fail
      refine (iBest_any a b m n _ ha hb).mono ?_
      rintro e w1 ⟨rfl, h1⟩
      rw [HP.out]
      obtain ⟨k1, z1, c1, d1, _, f1⟩ := two_new h1
      have e0 : w1.cell? ⟨w.heap.size + 1, 0, none⟩ = some (.int .i64 0) := by rw [d1]; simp [go_sem]
      have e1 : w1.cell? ⟨w.heap.size + 1, 1, none⟩ = some (.int .i64 0) := by rw [d1]; simp [go_sem]
      have g0 : w1.frozen? ⟨w.heap.size + 1, 0, none⟩ = false := by rw [f1]; simp [go_sem]
      have g1 : w1.frozen? ⟨w.heap.size + 1, 1, none⟩ = false := by rw [f1]; simp [go_sem]
      clear h1 c1 d1 f1
      go_wp2_with fail
      refine (iBest_any a b 0 0 _ ha hb).mono ?_
      rintro e w2 ⟨rfl, h2⟩
      have k2 := k1.trans (h2.mono k1.size)
      obtain ⟨hc, hf⟩ := bcell h2
      have x0 := (hc _ 0 z1).trans e0
      have x1 := (hc _ 1 z1).trans e1
      have y0 := (hf _ 0 z1).trans g0
      have y1 := (hf _ 1 z1).trans g1
      clear hc hf h2 e0 e1 g0 g1
      rw [fitB_zero, fitB_zero, ← HF.out]
      go_wp2
      refine bodyPost_ret (v := .tuple #[.int .i64 (chooseB a b m n), .agg #[.int .i64 0, .int .i64 0]]) ?_ rfl ⟨?_, ?_⟩
      · rw [results_tmp_cell rfl]; simp [asAddr, Result.andThen, go_sem, x0, x1]
      · rw [H0.out m, H0.out n]
      · exact hset _ _ _ (hset _ _ _ k2)
    · have hv2 : vldB a = false ∧ vldB b = false := by
        revert hv
        cases vldB a <;> cases vldB b <;> simp
      obtain ⟨q0, q1, q2⟩ := chooseB_none (m := m) (n := n) hv2.1 hv2.2
      have HF : Hid (chooseB a b m n = -1) := q1
      have HV : Hid (pickB a b (vldB a) (vldB b) = -1) := by rw [Hid, hv2.1, hv2.2]; rfl
      have H0 : Hid (∀ k, leftS a b m n k = k) := fun k => by unfold leftS; rw [q2]; rfl
      clear hp hv hv2 q0 q1 q2
      go_enter Tryz.func51, Tryz.ntmps51
      go_wp2_with fail
      refine (iBest_any a b m n _ ha hb).mono ?_
      rintro e w1 ⟨rfl, h1⟩
      rw [HP.out]
      obtain ⟨k1, z1, c1, d1, _, f1⟩ := two_new h1
      have e0 : w1.cell? ⟨w.heap.size + 1, 0, none⟩ = some (.int .i64 0) := by rw [d1]; simp [go_sem]
      have e1 : w1.cell? ⟨w.heap.size + 1, 1, none⟩ = some (.int .i64 0) := by rw [d1]; simp [go_sem]
      have g0 : w1.frozen? ⟨w.heap.size + 1, 0, none⟩ = false := by rw [f1]; simp [go_sem]
      have g1 : w1.frozen? ⟨w.heap.size + 1, 1, none⟩ = false := by rw [f1]; simp [go_sem]
      have s0 : w1.cell? ⟨w.heap.size, 0, none⟩ = some (.int .i64 m) := by rw [c1]; simp [go_sem]
      have s1 : w1.cell? ⟨w.heap.size, 1, none⟩ = some (.int .i64 n) := by rw [c1]; simp [go_sem]
      clear h1 c1 d1 f1
      go_wp2_with fail
      refine (iBest_any a b 0 0 _ ha hb).mono ?_
      rintro e w2 ⟨rfl, h2⟩
      have k2 := k1.trans (h2.mono k1.size)
      obtain ⟨hc, hf⟩ := bcell h2
      have z2 : w.heap.size < w1.heap.size := by omega
      have x0 := (hc _ 0 z1).trans e0
      have x1 := (hc _ 1 z1).trans e1
      have y0 := (hf _ 0 z1).trans g0
      have y1 := (hf _ 1 z1).trans g1
      have t0 := (hc _ 0 z2).trans s0
      have t1 := (hc _ 1 z2).trans s1
      clear hc hf h2 e0 e1 g0 g1 s0 s1
      rw [fitB_zero, fitB_zero, HV.out]
      go_wp2
      go_region
      all_goals
        go_wp2
        refine bodyPost_ret (v := .tuple #[.int .i64 (-1), .agg #[.int .i64 m, .int .i64 n]]) ?_ rfl ⟨?_, ?_⟩
        · rw [results_tmp_cell rfl]; simp [asAddr, Result.andThen, go_sem, x0, x1]
        · rw [H0.out m, H0.out n, HF.out]
        · exact below_drewN (hset _ _ _ (hset _ _ _ k2)) _
  · obtain ⟨q1, q2⟩ := chooseB_old hp
    have HF : Hid (chooseB a b m n = pickB a b (fitB a m) (fitB b n)) := q1
    have H0 : Hid (∀ k, leftS a b m n k = k) := fun k => by unfold leftS; rw [q2]; rfl
    have HP : (chooseB a b m n == -1) = false := by rw [HF.out]; simpa using hp
    clear hp q1 q2
    go_enter Tryz.func51, Tryz.ntmps51
    go_wp2_with fail
    refine (iBest_any a b m n _ ha hb).mono ?_
    rintro e w1 ⟨rfl, h1⟩
    rw [← HF.out]
    obtain ⟨k1, z1, c1, d1, _, f1⟩ := two_new h1
    have x0 : w1.cell? ⟨w.heap.size + 1, 0, none⟩ = some (.int .i64 0) := by rw [d1]; simp [go_sem]
    have x1 : w1.cell? ⟨w.heap.size + 1, 1, none⟩ = some (.int .i64 0) := by rw [d1]; simp [go_sem]
    have g0 : w1.frozen? ⟨w.heap.size + 1, 0, none⟩ = false := by rw [f1]; simp [go_sem]
    have g1 : w1.frozen? ⟨w.heap.size + 1, 1, none⟩ = false := by rw [f1]; simp [go_sem]
    have s0 : w1.cell? ⟨w.heap.size, 0, none⟩ = some (.int .i64 m) := by rw [c1]; simp [go_sem]
    have s1 : w1.cell? ⟨w.heap.size, 1, none⟩ = some (.int .i64 n) := by rw [c1]; simp [go_sem]
    clear h1 c1 d1 f1
    go_wp2
    go_region
    all_goals
      go_wp2
      refine bodyPost_ret (v := .tuple #[.int .i64 (chooseB a b m n), .agg #[.int .i64 m, .int .i64 n]]) ?_ rfl ⟨?_, ?_⟩
      · rw [results_tmp_cell rfl]; simp [asAddr, Result.andThen, go_sem, x0, x1]
      · rw [H0.out m, H0.out n]
      · exact below_drewN (hset _ _ _ (hset _ _ _ k1)) _

set_option maxHeartbeats 400000 in
theorem iChoose_any (a b : ByteArray) (m n : Int) (w : World) (ha : a.size ≤ maxLen) (hb : b.size ≤ maxLen) :
    Calls Tryz.prog 42 #[.string a, .string b, .agg #[.int .i64 m, .int .i64 n]] w fun e w' => e = .returned (.int .i64 (chooseB a b m n)) ∧ Below w.heap.size w w' := by
  go_enter Tryz.func42, Tryz.ntmps42
  go_wp2_with fail
  refine (iDecide_any a b m n _ ha hb).mono ?_
  rintro e w1 ⟨rfl, h1⟩
  have k1 : Below w.heap.size w w1 := ((Below.refl _ w).alloc (Nat.le_refl _) _).trans (h1.mono (by simp))
  clear h1
  have k2 : ∀ o, Below w.heap.size w (w1.alloc o) := fun o => k1.alloc k1.size o
  go_wp2
  go_ret
  exact ⟨rfl, k2 _⟩

set_option maxHeartbeats 400000 in
theorem nChoose_any (a b : ByteArray) (m n : Int) (w : World) (ha : a.size ≤ maxLen) (hb : b.size ≤ maxLen) :
    Calls Tryz.prog 23 #[.string a, .string b, .agg #[.int .i64 m, .int .i64 n]] w fun e w' => e = .returned (.int .i64 (chooseB a b m n)) ∧ Below w.heap.size w w' := by
  go_enter Tryz.func23, Tryz.ntmps23
  go_wp2_with fail
  refine (iChoose_any a b m n _ ha hb).mono ?_
  rintro e w1 ⟨rfl, h1⟩
  have k1 : Below w.heap.size w w1 := ((Below.refl _ w).alloc (Nat.le_refl _) _).trans (h1.mono (by simp))
  clear h1
  go_wp2
  go_ret
  exact ⟨rfl, k1⟩

end Go.Proofs.YtommhbidkoeifaaGreat
