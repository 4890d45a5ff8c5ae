/- Of several texts, one behind the other. -/
import Derived.Test.YtikdbpphbdbdnaaGreatProg
import Derived.Test.YtikdbpphbdbdnaaGreatBa
import Derived.WalkKit
import Derived.WalkSpells
import Derived.WalkLawsBesides
import Derived.Deep.QuietTactic
import Derived.BigQuiet
import Derived.Laws.BytesArg
/- The two sums: of the program's images.sum and of the document's: both are the sum of all bytes modulo 256. -/
namespace Go.Proofs.YtikdbpphbdbdnaaGreat
open Go.RowKit

theorem ret_int {k : IntKind} {a b : Int} (h : a = b) : Ending.returned (.int k a) = .returned (.int k b) := by rw [h]

set_option maxHeartbeats 400000 in
theorem rSum_any (s : ByteArray) (w : World) (hs : s.size ≤ maxLen) :
    Calls Tryz.prog 29 #[.string s] w fun e w' => e = .returned (.int .i64 (psum s s.size)) ∧ w' = w := by
  unfold maxLen at hs
  go_enter Tryz.func29, Tryz.ntmps29
  go_wp2
  go_loop [3, 4] (fun n i => ∃ k : Nat, k ≤ s.size ∧ i = .int .i64 k ∧ n = .int .i64 (psum s k)) (fun _ i => s.size - (intOf i).toNat)
  case atStart => exact ⟨0, Nat.zero_le _, rfl, by rw [psum_zero]⟩
  case round =>
    obtain ⟨k, hk, rfl, rfl⟩ := hrel
    have hd := psum_bounds s k
    by_cases hlt : k < s.size
    · have HS : Hid (psum s (k + 1) = (psum s k + (s[k].toNat : Int)) % 256) := psum_succ s k hlt
      go_wp2
      go_round
      case rel => exact ⟨k + 1, by omega, by go_num, by rw [HS.out, sum_round _ _ hd]⟩
      case measure => simp [intOf]; omega
    · go_wp2
      go_ret
      exact ⟨ret_int (psum_all s k (by omega)), rfl⟩

set_option maxHeartbeats 400000 in
theorem iSum_any (s : ByteArray) (w : World) (hs : s.size ≤ maxLen) :
    Calls Tryz.prog 55 #[.string s] w fun e w' => e = .returned (.int .u8 (psum s s.size)) ∧ w' = w := by
  unfold maxLen at hs
  go_enter Tryz.func55, Tryz.ntmps55
  go_wp2
  go_loop [3, 4, 7] (fun n _ i => ∃ k : Nat, k ≤ s.size ∧ i = .int .i64 k ∧ n = .int .u8 (psum s k)) (fun _ _ i => s.size - (intOf i).toNat)
  case atStart => exact ⟨0, Nat.zero_le _, rfl, by rw [psum_zero]⟩
  case round =>
    obtain ⟨k, hk, rfl, rfl⟩ := hrel
    have hd := psum_bounds s k
    by_cases hlt : k < s.size
    · have HS : Hid (psum s (k + 1) = (psum s k + (s[k].toNat : Int)) % 256) := psum_succ s k hlt
      go_wp2
      go_round
      case rel => exact ⟨k + 1, by omega, by go_num, by rw [HS.out]⟩
      case measure => simp [intOf]; omega
    · go_wp2
      go_ret
      exact ⟨ret_int (psum_all s k (by omega)), rfl⟩

end Go.Proofs.YtikdbpphbdbdnaaGreat

/- Valid, fit, greater: of the program and of the document. -/
namespace Go.Proofs.YtikdbpphbdbdnaaGreat
open Go.RowKit

theorem ret_bool {a b : Bool} (h : a = b) : Ending.returned (.bool a) = .returned (.bool b) := by rw [h]

set_option maxHeartbeats 400000 in
theorem iValid_any (s : ByteArray) (w : World) (hs : s.size ≤ maxLen) :
    Calls Tryz.prog 43 #[.string s] w fun e w' => e = .returned (.bool (vldB s)) ∧ w' = w := by
  by_cases h64 : s.size = 64
  · have h0 : 0 < s.size := by omega
    by_cases hm : (s[0].toNat : Int) = 176
    · have HF : Hid (vldB s = (psum s 64 == 165)) := vld_sum h64 h0 hm
      go_enter Tryz.func43, Tryz.ntmps43
      go_wp2_with (go_at_call 55; refine (iSum_any _ _ hs).mono ?_; rintro e w' ⟨rfl, rfl⟩)
      go_ret
      exact ⟨ret_bool HF.out.symm, rfl⟩
    · have HF : Hid (vldB s = false) := vld_mark h0 hm
      go_enter Tryz.func43, Tryz.ntmps43
      go_wp2
      go_ret
      exact ⟨ret_bool HF.out.symm, rfl⟩
  · have HF : Hid (vldB s = false) := vld_size h64
    go_enter Tryz.func43, Tryz.ntmps43
    have hb : ((s.size : Int) == 64) = false := beq_eq_false_iff_ne.2 (by omega)
    go_wp2
    go_ret
    exact ⟨ret_bool HF.out.symm, rfl⟩

set_option maxHeartbeats 400000 in
theorem rValid_any (s : ByteArray) (w : World) (hs : s.size ≤ maxLen) :
    Calls Tryz.prog 24 #[.string s] w fun e w' => e = .returned (.bool (vldB s)) ∧ w' = w := by
  by_cases h64 : s.size = 64
  · have h0 : 0 < s.size := by omega
    by_cases hm : (s[0].toNat : Int) = 176
    · have HF : Hid (vldB s = (psum s 64 == 165)) := vld_sum h64 h0 hm
      go_enter Tryz.func24, Tryz.ntmps24
      go_wp2_with (go_at_call 29; refine (rSum_any _ _ hs).mono ?_; rintro e w' ⟨rfl, rfl⟩)
      go_ret
      exact ⟨ret_bool HF.out.symm, rfl⟩
    · have HF : Hid (vldB s = false) := vld_mark h0 hm
      go_enter Tryz.func24, Tryz.ntmps24
      go_wp2
      go_ret
      exact ⟨ret_bool HF.out.symm, rfl⟩
  · have HF : Hid (vldB s = false) := vld_size h64
    go_enter Tryz.func24, Tryz.ntmps24
    have hb : ((s.size : Int) != 64) = true := by rw [bne_iff_ne]; omega
    go_wp2
    go_ret
    exact ⟨ret_bool HF.out.symm, rfl⟩

set_option maxHeartbeats 400000 in
theorem nValid_any (s : ByteArray) (w : World) (hs : s.size ≤ maxLen) :
    Calls Tryz.prog 23 #[.string s] w fun e w' => e = .returned (.bool (vldB s)) ∧ w' = w := by
  go_enter Tryz.func23, Tryz.ntmps23
  go_wp2_with (go_at_call 43; refine (iValid_any _ _ hs).mono ?_; rintro e w' ⟨rfl, rfl⟩)
  go_ret
  exact ⟨rfl, rfl⟩

end Go.Proofs.YtikdbpphbdbdnaaGreat

/- fit, greater, best, Choose: of the program and of the document. -/
namespace Go.Proofs.YtikdbpphbdbdnaaGreat
open Go.RowKit

set_option maxHeartbeats 400000 in
theorem iFit_any (s : ByteArray) (n : Int) (w : World) (hs : s.size ≤ maxLen) :
    Calls Tryz.prog 74 #[.string s, .int .i64 n] w fun e w' => e = .returned (.bool (fitB s n)) ∧ w' = w := by
  cases hv : vldB s
  · have HF : Hid (fitB s n = false) := by simp [Hid, fitB, hv]
    go_enter Tryz.func74, Tryz.ntmps74
    go_wp2_with (go_at_call 43; refine (iValid_any _ _ hs).mono ?_; rintro e w' ⟨rfl, rfl⟩)
    go_ret
    exact ⟨ret_bool HF.out.symm, rfl⟩
  · have HF : Hid (fitB s n = decide (n < 3)) := by simp [Hid, fitB, hv]
    go_enter Tryz.func74, Tryz.ntmps74
    go_wp2_with (go_at_call 43; refine (iValid_any _ _ hs).mono ?_; rintro e w' ⟨rfl, rfl⟩)
    go_ret
    exact ⟨ret_bool HF.out.symm, rfl⟩

set_option maxHeartbeats 400000 in
theorem iGreater_any (a b : ByteArray) (w : World) (ha : 1 < a.size) (hb : 1 < b.size) :
    Calls Tryz.prog 75 #[.string a, .string b] w fun e w' => e = .returned (.int .i64 (grtB a b)) ∧ ∃ n, w' = w.drewN n := by
  have ha' : (1 : Int) < (a.size : Int) := by omega
  have hb' : (1 : Int) < (b.size : Int) := by omega
  by_cases h : (a[1].toNat : Int) < (b[1].toNat : Int)
  · have HF : Hid (grtB a b = 1) := grtB_yes a b ha hb h
    go_enter Tryz.func75, Tryz.ntmps75
    go_wp2
    go_quiet (fail)
    go_wp2
    go_ret
    exact ⟨ret_int HF.out.symm, _, rfl⟩
  · have HF : Hid (grtB a b = 0) := grtB_no a b ha hb h
    go_enter Tryz.func75, Tryz.ntmps75
    go_wp2
    go_quiet (fail)
    go_wp2
    go_ret
    exact ⟨ret_int HF.out.symm, _, rfl⟩

set_option maxHeartbeats 400000 in
theorem rGreater_tt (a b : ByteArray) (w : World) (ha : 1 < a.size) (hb : 1 < b.size) :
    Calls Tryz.prog 45 #[.string a, .string b, .bool true, .bool true] w fun e w' => e = .returned (.int .i64 (grtB a b)) ∧ ∃ n, w' = w.drewN n := by
  have ha' : (1 : Int) < (a.size : Int) := by omega
  have hb' : (1 : Int) < (b.size : Int) := by omega
  by_cases h : (a[1].toNat : Int) < (b[1].toNat : Int)
  · have HF : Hid (grtB a b = 1) := grtB_yes a b ha hb h
    go_enter Tryz.func45, Tryz.ntmps45
    go_wp2
    go_quiet (fail)
    go_wp2
    go_ret
    exact ⟨ret_int HF.out.symm, _, rfl⟩
  · have HF : Hid (grtB a b = 0) := grtB_no a b ha hb h
    go_enter Tryz.func45, Tryz.ntmps45
    go_wp2
    go_quiet (fail)
    go_wp2
    go_ret
    exact ⟨ret_int HF.out.symm, _, rfl⟩

set_option maxHeartbeats 400000 in
theorem rGreater_tf (a b : ByteArray) (w : World) :
    Calls Tryz.prog 45 #[.string a, .string b, .bool true, .bool false] w fun e w' => e = .returned (.int .i64 0) ∧ ∃ n, w' = w.drewN n := by
  go_enter Tryz.func45, Tryz.ntmps45
  go_wp2
  go_quiet (fail)
  go_wp2
  go_ret
  exact ⟨rfl, _, rfl⟩

set_option maxHeartbeats 400000 in
theorem rGreater_ft (a b : ByteArray) (w : World) :
    Calls Tryz.prog 45 #[.string a, .string b, .bool false, .bool true] w fun e w' => e = .returned (.int .i64 1) ∧ ∃ n, w' = w.drewN n := by
  go_enter Tryz.func45, Tryz.ntmps45
  go_wp2
  go_quiet (fail)
  go_wp2
  go_ret
  exact ⟨rfl, _, rfl⟩

set_option maxHeartbeats 400000 in
theorem rGreater_ff (a b : ByteArray) (w : World) :
    Calls Tryz.prog 45 #[.string a, .string b, .bool false, .bool false] w fun e w' => e = .returned (.int .i64 (-1)) ∧ ∃ n, w' = w.drewN n := by
  go_enter Tryz.func45, Tryz.ntmps45
  go_wp2
  go_quiet (fail)
  go_wp2
  go_ret
  exact ⟨rfl, _, rfl⟩

theorem rGreater_any (a b : ByteArray) (x y : Bool) (w : World) (ha : x = true → a.size = 64) (hb : y = true → b.size = 64) :
    Calls Tryz.prog 45 #[.string a, .string b, .bool x, .bool y] w fun e w' => e = .returned (.int .i64 (pickB a b x y)) ∧ ∃ n, w' = w.drewN n := by
  cases x <;> cases y
  · exact rGreater_ff a b w
  · exact rGreater_ft a b w
  · exact rGreater_tf a b w
  · exact rGreater_tt a b w (by rw [ha rfl]; omega) (by rw [hb rfl]; omega)

set_option maxHeartbeats 400000 in
theorem iBest_any (a b : ByteArray) (m n : Int) (w : World) (ha : a.size ≤ maxLen) (hb : b.size ≤ maxLen) :
    Calls Tryz.prog 62 #[.string a, .string b, .agg #[.int .i64 m, .int .i64 n]] w fun e w' => e = .returned (.int .i64 (pickB a b (fitB a m) (fitB b n))) ∧ Below w.heap.size w w' := by
  have hx : fitB a m = true → a.size = 64 := fun h => vld_64 (fitB_vld h)
  have hy : fitB b n = true → b.size = 64 := fun h => vld_64 (fitB_vld h)
  generalize hX : fitB a m = x at hx
  generalize hY : fitB b n = y at hy
  have HX : Hid (fitB a m = x) := hX
  have HY : Hid (fitB b n = y) := hY
  clear hX hY
  go_enter Tryz.func62, Tryz.ntmps62
  go_wp2_with fail
  refine (iFit_any a m _ ha).mono ?_
  rintro e w1 ⟨rfl, rfl⟩
  rw [HX.out]
  go_wp2_with fail
  refine (iFit_any b n _ hb).mono ?_
  rintro e w1 ⟨rfl, rfl⟩
  rw [HY.out]
  have hB : ∀ o n, Below w.heap.size w ((w.alloc o).drewN n) := fun o n => below_drewN ((Below.refl _ _).alloc (Nat.le_refl _) o) n
  have hB0 : ∀ o, Below w.heap.size w (w.alloc o) := fun o => (Below.refl _ _).alloc (Nat.le_refl _) o
  cases x <;> cases y
  · go_wp2
    go_ret
    exact ⟨rfl, hB0 _⟩
  · go_wp2
    go_ret
    exact ⟨rfl, hB0 _⟩
  · go_wp2
    go_ret
    exact ⟨rfl, hB0 _⟩
  · have h1 : 1 < a.size := by rw [hx rfl]; omega
    have h2 : 1 < b.size := by rw [hy rfl]; omega
    clear hx hy
    go_wp2_with (go_at_call 75; refine (iGreater_any a b _ h1 h2).mono ?_; rintro e w' ⟨rfl, nq, rfl⟩)
    go_ret
    exact ⟨rfl, hB _ _⟩

theorem bcell {W w1 : World} (hb : Below W.heap.size W w1) : (∀ b o, b < W.heap.size → w1.cell? ⟨b, o, none⟩ = W.cell? ⟨b, o, none⟩) ∧ (∀ b o, b < W.heap.size → w1.frozen? ⟨b, o, none⟩ = W.frozen? ⟨b, o, none⟩) :=
  ⟨fun b o h => hb.cell (p := ⟨b, o, none⟩) h, fun b o h => hb.frozen (p := ⟨b, o, none⟩) h⟩

/-- Strikes behind the choice. -/
def leftS (a b : ByteArray) (m n k : Int) : Int := if anewB a b m n = true then 0 else k

theorem results_tmp_cell {fn : Func} {p u : Tmp} {ty : TypeId} (h : fn.results = #[.tmp u, .cell p ty]) (tmps : Array Value) (P : Program) (w : World) :
    (results fn tmps).run P w =
      ((asAddr (tmps.getD p undef)).run P w).andThen fun a w₁ => ((loadVar ty a).run P w₁).andThen fun v w₂ => .ok (.tuple #[tmps.getD u undef, v]) w₂ := by
  simp only [results, h]
  simp [Sem.run_bind, Result.andThen]

/-- Two blocks that are new, and what stays of them. -/
theorem two_new {w w1 : World} {a b : Obj} (h : Below ((w.alloc a).alloc b).heap.size ((w.alloc a).alloc b) w1) :
    Below w.heap.size w w1 ∧ w.heap.size + 1 < w1.heap.size ∧ (∀ o, w1.cell? ⟨w.heap.size, o, none⟩ = ((w.alloc a).alloc b).cell? ⟨w.heap.size, o, none⟩) ∧ (∀ o, w1.cell? ⟨w.heap.size + 1, o, none⟩ = ((w.alloc a).alloc b).cell? ⟨w.heap.size + 1, o, none⟩) ∧ (∀ o, w1.frozen? ⟨w.heap.size, o, none⟩ = ((w.alloc a).alloc b).frozen? ⟨w.heap.size, o, none⟩) ∧ (∀ o, w1.frozen? ⟨w.heap.size + 1, o, none⟩ = ((w.alloc a).alloc b).frozen? ⟨w.heap.size + 1, o, none⟩) := by
  have hs : ((w.alloc a).alloc b).heap.size = w.heap.size + 1 + 1 := by simp
  obtain ⟨hc, hf⟩ := bcell h
  rw [hs] at hc hf
  refine ⟨(((Below.refl _ w).alloc (Nat.le_refl _) _).alloc (by simp) _).trans (h.mono (by simp; omega)), by have := h.size; rw [hs] at this; omega, fun o => hc _ _ (by omega), fun o => hc _ _ (by omega), fun o => hf _ _ (by omega), fun o => hf _ _ (by omega)⟩

set_option maxHeartbeats 400000 in
theorem iDecide_any (a b : ByteArray) (m n : Int) (w : World) (ha : a.size ≤ maxLen) (hb : b.size ≤ maxLen) :
    Calls Tryz.prog 56 #[.string a, .string b, .agg #[.int .i64 m, .int .i64 n]] w fun e w' => e = .returned (.tuple #[.int .i64 (chooseB a b m n), .agg #[.int .i64 (leftS a b m n m), .int .i64 (leftS a b m n n)]]) ∧ Below w.heap.size w w' := by
  have hset : ∀ (W : World) (o : Nat) (v : Value), Below w.heap.size w W → Below w.heap.size w (W.setCell ⟨w.heap.size + 1, o, none⟩ v) := fun W o v h => h.setCell (by show w.heap.size ≤ w.heap.size + 1; omega) v
  by_cases hp : pickB a b (fitB a m) (fitB b n) = -1
  · have HP : Hid (pickB a b (fitB a m) (fitB b n) = -1) := hp
    by_cases hv : (vldB a || vldB b) = true
    · obtain ⟨q1, q2⟩ := chooseB_new (m := m) (n := n) hp hv
      have HF : Hid (chooseB a b m n = pickB a b (vldB a) (vldB b)) := q1
      have H0 : Hid (∀ k, leftS a b m n k = 0) := fun k => by unfold leftS; rw [q2]; rfl
      have HN : (chooseB a b m n == -1) = false := by
        rw [q1]
        have hg := grtB_cases a b
        revert hv
        cases vldB a <;> cases vldB b <;> simp [pickB] <;> omega
      clear hp hv q1 q2
      go_enter Tryz.func56, Tryz.ntmps56
      go_wp2_with fail
      refine (iBest_any a b m n _ ha hb).mono ?_
      rintro e w1 ⟨rfl, h1⟩
      rw [HP.out]
      obtain ⟨k1, z1, c1, d1, _, f1⟩ := two_new h1
      have e0 : w1.cell? ⟨w.heap.size + 1, 0, none⟩ = some (.int .i64 0) := by rw [d1]; simp [go_sem]
      have e1 : w1.cell? ⟨w.heap.size + 1, 1, none⟩ = some (.int .i64 0) := by rw [d1]; simp [go_sem]
      have g0 : w1.frozen? ⟨w.heap.size + 1, 0, none⟩ = false := by rw [f1]; simp [go_sem]
      have g1 : w1.frozen? ⟨w.heap.size + 1, 1, none⟩ = false := by rw [f1]; simp [go_sem]
      clear h1 c1 d1 f1
      go_wp2_with fail
      refine (iBest_any a b 0 0 _ ha hb).mono ?_
      rintro e w2 ⟨rfl, h2⟩
      have k2 := k1.trans (h2.mono k1.size)
      obtain ⟨hc, hf⟩ := bcell h2
      have x0 := (hc _ 0 z1).trans e0
      have x1 := (hc _ 1 z1).trans e1
      have y0 := (hf _ 0 z1).trans g0
      have y1 := (hf _ 1 z1).trans g1
      clear hc hf h2 e0 e1 g0 g1
      rw [fitB_zero, fitB_zero, ← HF.out]
      go_wp2
      refine bodyPost_ret (v := .tuple #[.int .i64 (chooseB a b m n), .agg #[.int .i64 0, .int .i64 0]]) ?_ rfl ⟨?_, ?_⟩
      · rw [results_tmp_cell rfl]; simp [asAddr, Result.andThen, go_sem, x0, x1]
      · rw [H0.out m, H0.out n]
      · exact hset _ _ _ (hset _ _ _ k2)
    · have hv2 : vldB a = false ∧ vldB b = false := by
        revert hv
        cases vldB a <;> cases vldB b <;> simp
      obtain ⟨q0, q1, q2⟩ := chooseB_none (m := m) (n := n) hv2.1 hv2.2
      have HF : Hid (chooseB a b m n = -1) := q1
      have HV : Hid (pickB a b (vldB a) (vldB b) = -1) := by rw [Hid, hv2.1, hv2.2]; rfl
      have H0 : Hid (∀ k, leftS a b m n k = k) := fun k => by unfold leftS; rw [q2]; rfl
      clear hp hv hv2 q0 q1 q2
      go_enter Tryz.func56, Tryz.ntmps56
      go_wp2_with fail
      refine (iBest_any a b m n _ ha hb).mono ?_
      rintro e w1 ⟨rfl, h1⟩
      rw [HP.out]
      obtain ⟨k1, z1, c1, d1, _, f1⟩ := two_new h1
      have e0 : w1.cell? ⟨w.heap.size + 1, 0, none⟩ = some (.int .i64 0) := by rw [d1]; simp [go_sem]
      have e1 : w1.cell? ⟨w.heap.size + 1, 1, none⟩ = some (.int .i64 0) := by rw [d1]; simp [go_sem]
      have g0 : w1.frozen? ⟨w.heap.size + 1, 0, none⟩ = false := by rw [f1]; simp [go_sem]
      have g1 : w1.frozen? ⟨w.heap.size + 1, 1, none⟩ = false := by rw [f1]; simp [go_sem]
      have s0 : w1.cell? ⟨w.heap.size, 0, none⟩ = some (.int .i64 m) := by rw [c1]; simp [go_sem]
      have s1 : w1.cell? ⟨w.heap.size, 1, none⟩ = some (.int .i64 n) := by rw [c1]; simp [go_sem]
      clear h1 c1 d1 f1
      go_wp2_with fail
      refine (iBest_any a b 0 0 _ ha hb).mono ?_
      rintro e w2 ⟨rfl, h2⟩
      have k2 := k1.trans (h2.mono k1.size)
      obtain ⟨hc, hf⟩ := bcell h2
      have z2 : w.heap.size < w1.heap.size := by omega
      have x0 := (hc _ 0 z1).trans e0
      have x1 := (hc _ 1 z1).trans e1
      have y0 := (hf _ 0 z1).trans g0
      have y1 := (hf _ 1 z1).trans g1
      have t0 := (hc _ 0 z2).trans s0
      have t1 := (hc _ 1 z2).trans s1
      clear hc hf h2 e0 e1 g0 g1 s0 s1
      rw [fitB_zero, fitB_zero, HV.out]
      go_wp2
      go_region
      all_goals
        go_wp2
        refine bodyPost_ret (v := .tuple #[.int .i64 (-1), .agg #[.int .i64 m, .int .i64 n]]) ?_ rfl ⟨?_, ?_⟩
        · rw [results_tmp_cell rfl]; simp [asAddr, Result.andThen, go_sem, x0, x1]
        · rw [H0.out m, H0.out n, HF.out]
        · exact below_drewN (hset _ _ _ (hset _ _ _ k2)) _
  · obtain ⟨q1, q2⟩ := chooseB_old hp
    have HF : Hid (chooseB a b m n = pickB a b (fitB a m) (fitB b n)) := q1
    have H0 : Hid (∀ k, leftS a b m n k = k) := fun k => by unfold leftS; rw [q2]; rfl
    have HP : (chooseB a b m n == -1) = false := by rw [HF.out]; simpa using hp
    clear hp q1 q2
    go_enter Tryz.func56, Tryz.ntmps56
    go_wp2_with fail
    refine (iBest_any a b m n _ ha hb).mono ?_
    rintro e w1 ⟨rfl, h1⟩
    rw [← HF.out]
    obtain ⟨k1, z1, c1, d1, _, f1⟩ := two_new h1
    have x0 : w1.cell? ⟨w.heap.size + 1, 0, none⟩ = some (.int .i64 0) := by rw [d1]; simp [go_sem]
    have x1 : w1.cell? ⟨w.heap.size + 1, 1, none⟩ = some (.int .i64 0) := by rw [d1]; simp [go_sem]
    have g0 : w1.frozen? ⟨w.heap.size + 1, 0, none⟩ = false := by rw [f1]; simp [go_sem]
    have g1 : w1.frozen? ⟨w.heap.size + 1, 1, none⟩ = false := by rw [f1]; simp [go_sem]
    have s0 : w1.cell? ⟨w.heap.size, 0, none⟩ = some (.int .i64 m) := by rw [c1]; simp [go_sem]
    have s1 : w1.cell? ⟨w.heap.size, 1, none⟩ = some (.int .i64 n) := by rw [c1]; simp [go_sem]
    clear h1 c1 d1 f1
    go_wp2
    go_region
    all_goals
      go_wp2
      refine bodyPost_ret (v := .tuple #[.int .i64 (chooseB a b m n), .agg #[.int .i64 m, .int .i64 n]]) ?_ rfl ⟨?_, ?_⟩
      · rw [results_tmp_cell rfl]; simp [asAddr, Result.andThen, go_sem, x0, x1]
      · rw [H0.out m, H0.out n]
      · exact below_drewN (hset _ _ _ (hset _ _ _ k1)) _

set_option maxHeartbeats 400000 in
theorem iChoose_any (a b : ByteArray) (m n : Int) (w : World) (ha : a.size ≤ maxLen) (hb : b.size ≤ maxLen) :
    Calls Tryz.prog 44 #[.string a, .string b, .agg #[.int .i64 m, .int .i64 n]] w fun e w' => e = .returned (.int .i64 (chooseB a b m n)) ∧ Below w.heap.size w w' := by
  go_enter Tryz.func44, Tryz.ntmps44
  go_wp2_with fail
  refine (iDecide_any a b m n _ ha hb).mono ?_
  rintro e w1 ⟨rfl, h1⟩
  have k1 : Below w.heap.size w w1 := ((Below.refl _ w).alloc (Nat.le_refl _) _).trans (h1.mono (by simp))
  clear h1
  have k2 : ∀ o, Below w.heap.size w (w1.alloc o) := fun o => k1.alloc k1.size o
  go_wp2
  go_ret
  exact ⟨rfl, k2 _⟩

set_option maxHeartbeats 400000 in
theorem nChoose_any (a b : ByteArray) (m n : Int) (w : World) (ha : a.size ≤ maxLen) (hb : b.size ≤ maxLen) :
    Calls Tryz.prog 25 #[.string a, .string b, .agg #[.int .i64 m, .int .i64 n]] w fun e w' => e = .returned (.int .i64 (chooseB a b m n)) ∧ Below w.heap.size w w' := by
  go_enter Tryz.func25, Tryz.ntmps25
  go_wp2_with fail
  refine (iChoose_any a b m n _ ha hb).mono ?_
  rintro e w1 ⟨rfl, h1⟩
  have k1 : Below w.heap.size w w1 := ((Below.refl _ w).alloc (Nat.le_refl _) _).trans (h1.mono (by simp))
  clear h1
  go_wp2
  go_ret
  exact ⟨rfl, k1⟩

end Go.Proofs.YtikdbpphbdbdnaaGreat

/- Blocks of memory: what they hold, what stays of them; a new board's state; what Tell tells. -/
namespace Go.Proofs.YtikdbpphbdbdnaaGreat
open Go.RowKit
set_option linter.unusedVariables false

/-- n cells of a block hold F, and may be written. -/
def Raw (g n : Nat) (F : Nat → Value) (w : World) : Prop := ∀ i, i < n → w.cell? ⟨g, i, none⟩ = some (F i) ∧ w.frozen? ⟨g, i, none⟩ = false

theorem Raw.other {g n b j : Nat} {F : Nat → Value} {w : World} (h : Raw g n F w) (hb : b ≠ g) (v : Value) : Raw g n F (w.setCell ⟨b, j, none⟩ v) := fun i hi =>
  ⟨by rw [World.cell?_setCell_other _ _ _ _ (by intro e; exact hb (congrArg Addr.block e))]; exact (h i hi).1, by rw [World.frozen?_setCell]; exact (h i hi).2⟩

theorem Raw.set {g n k : Nat} {F F' : Nat → Value} {w : World} (h : Raw g n F w) (hk : k < n) (v : Value) (he : ∀ i, i < n → F' i = if i = k then v else F i) : Raw g n F' (w.setCell ⟨g, k, none⟩ v) := fun i hi => by
  refine ⟨?_, by rw [World.frozen?_setCell]; exact (h i hi).2⟩
  rw [he i hi]
  by_cases e : i = k
  · subst e
    rw [if_pos rfl, World.cell?_setCell_same _ _ _ (h i hi).1]
  · rw [if_neg e, World.cell?_setCell_other _ _ _ _ (by intro x; exact e (congrArg Addr.off x).symm)]
    exact (h i hi).1

/-- The world is as it was but for the blocks of S; blocks may have come. -/
structure Kept (S : Nat → Prop) (w w' : World) : Prop where
  os : w'.os = w.os
  tape : w'.tape = w.tape
  output : w'.output = w.output
  size : w.heap.size ≤ w'.heap.size
  block : ∀ k, k < w.heap.size → ¬ S k → w'.heap[k]? = w.heap[k]?

theorem Kept.refl (S : Nat → Prop) (w : World) : Kept S w w := ⟨rfl, rfl, rfl, Nat.le_refl _, fun _ _ _ => rfl⟩

theorem Kept.trans {S : Nat → Prop} {a b c : World} (h : Kept S a b) (k : Kept S b c) : Kept S a c :=
  ⟨k.os.trans h.os, k.tape.trans h.tape, k.output.trans h.output, Nat.le_trans h.size k.size, fun i hi hS => (k.block i (Nat.lt_of_lt_of_le hi h.size) hS).trans (h.block i hi hS)⟩

theorem Kept.drewN {S : Nat → Prop} {a w : World} (h : Kept S a w) (n : Nat) : Kept S a (w.drewN n) := ⟨h.os, h.tape, h.output, h.size, h.block⟩
theorem Kept.drew {S : Nat → Prop} {a w : World} (h : Kept S a w) : Kept S a w.drew := ⟨h.os, h.tape, h.output, h.size, h.block⟩

theorem Kept.alloc {S : Nat → Prop} {a w : World} (h : Kept S a w) (o : Obj) : Kept S a (w.alloc o) :=
  ⟨h.os, h.tape, h.output, by rw [World.size_alloc]; exact Nat.le_succ_of_le h.size, fun k hk hS => by rw [Below.heap_alloc w o k (Nat.lt_of_lt_of_le hk h.size)]; exact h.block k hk hS⟩

theorem Kept.setCell {S : Nat → Prop} {a w : World} (h : Kept S a w) {b j : Nat} (hb : S b ∨ a.heap.size ≤ b) (u : Value) : Kept S a (w.setCell ⟨b, j, none⟩ u) :=
  ⟨h.os, h.tape, h.output, by simpa [World.setCell] using h.size, fun k hk hS => by
    rw [Below.heap_setCell w ⟨b, j, none⟩ u k (by rintro rfl; rcases hb with hb | hb; exact hS hb; exact absurd hk (Nat.not_lt.2 hb))]
    exact h.block k hk hS⟩

theorem Kept.below {S : Nat → Prop} {w w' : World} (h : Below w.heap.size w w') : Kept S w w' := ⟨h.os, h.tape, h.output, h.size, fun k hk _ => h.block k hk⟩

theorem Kept.wide {S T : Nat → Prop} {w w' : World} (h : Kept S w w') (hST : ∀ k, S k → T k) : Kept T w w' := ⟨h.os, h.tape, h.output, h.size, fun k hk hT => h.block k hk (fun x => hT (hST k x))⟩

theorem Kept.cell {S : Nat → Prop} {w w' : World} (h : Kept S w w') {b : Nat} (hb : b < w.heap.size) (hS : ¬ S b) (i : Nat) : w'.cell? ⟨b, i, none⟩ = w.cell? ⟨b, i, none⟩ := World.cell?_of_block (w := w) (h.block b hb hS)
theorem Kept.frozen {S : Nat → Prop} {w w' : World} (h : Kept S w w') {b : Nat} (hb : b < w.heap.size) (hS : ¬ S b) (i : Nat) : w'.frozen? ⟨b, i, none⟩ = w.frozen? ⟨b, i, none⟩ := World.frozen?_of_block (w := w) (h.block b hb hS)

theorem lt_of_cell {w : World} {b i : Nat} {v : Value} (h : w.cell? ⟨b, i, none⟩ = some v) : b < w.heap.size := by
  rcases Nat.lt_or_ge b w.heap.size with h1 | h1
  · exact h1
  · have h3 : w.heap[b]? = none := Array.getElem?_eq_none h1
    simp [World.cell?, h3] at h

theorem Raw.lt {g n : Nat} {F : Nat → Value} {w : World} (h : Raw g n F w) (hn : 0 < n) : g < w.heap.size := lt_of_cell (h 0 hn).1

theorem Raw.kept {S : Nat → Prop} {g n : Nat} {F : Nat → Value} {w w' : World} (h : Raw g n F w) (hk : Kept S w w') (hg : g < w.heap.size) (hS : ¬ S g) : Raw g n F w' := fun i hi =>
  ⟨by rw [hk.cell hg hS]; exact (h i hi).1, by rw [hk.frozen hg hS]; exact (h i hi).2⟩

theorem kcell {S : Nat → Prop} {w1 w2 : World} (hk : Kept S w1 w2) {b : Nat} (hb : b < w1.heap.size) (hn : ¬ S b) : (∀ o, w2.cell? ⟨b, o, none⟩ = w1.cell? ⟨b, o, none⟩) ∧ (∀ o, w2.frozen? ⟨b, o, none⟩ = w1.frozen? ⟨b, o, none⟩) :=
  ⟨fun o => hk.cell hb hn o, fun o => hk.frozen hb hn o⟩

/-- What Tell tells. -/
def St.told (st : St) : Value := .agg #[.int .i64 st.a, .int .i64 st.x, .int .i64 st.pc, .bool st.zero, .bool st.carry, .int .i64 st.bank, .int .i64 st.s0, .int .i64 st.s1, .int .i64 st.cause, .int .i64 st.age, .int .i64 st.count, .bool st.flag]

/-- The byte of a text. -/
def byteAt (s : ByteArray) (i : Nat) : Int := ((s.data.toList.getD i 0).toNat : Int)

/-- A new board. -/
def newSt (a b : ByteArray) : St := { mem := fun _ => 0, b0 := byteAt a, b1 := byteAt b, bank := -1, s0 := 0, s1 := 0, cause := 1, left := 4, down := false, a := 0, x := 0, pc := 0, zero := false, carry := false, op := 0, opd := 0, phase := 0, period := 0, count := 0, flag := false, age := 0, window := 0, windowed := false, key := false, out := 0, inp := 0, opn := false, place := 0, rst := 0 }

theorem byteAt_bounds (s : ByteArray) (i : Nat) : 0 ≤ byteAt s i ∧ byteAt s i ≤ 255 := by
  have := (s.data.toList.getD i 0).toNat_lt
  unfold byteAt
  omega

theorem newSt_inv (a b : ByteArray) : Inv (newSt a b) := by
  have z : (0 : Int) ≤ 0 ∧ (0 : Int) ≤ 255 := by decide
  exact { mem := fun _ => z, b0 := byteAt_bounds a, b1 := byteAt_bounds b, bank := (by decide : (-1 : Int) ≤ -1 ∧ (-1 : Int) ≤ 1), cause := (by decide : (0 : Int) ≤ 1 ∧ (1 : Int) ≤ 6), left := (by decide : (0 : Int) ≤ 4 ∧ (4 : Int) ≤ 4), a := z, x := z, pc := z, op := z, opd := z, phase := (by decide : (0 : Int) ≤ 0 ∧ (0 : Int) ≤ 3), period := z, count := z, cnt := fun h => absurd h (by decide : ¬ (0 : Int) < 0), age := (by decide : (0 : Int) ≤ 0 ∧ (0 : Int) ≤ 251), window := (by decide : (0 : Int) ≤ 0 ∧ (0 : Int) ≤ 200), out := z, inp := z, place := (by decide : (0 : Int) ≤ 0 ∧ (0 : Int) ≤ 63), ph2 := fun h => absurd h (by decide : ¬ (0 : Int) = 2), aged := fun h => absurd h (by decide : ¬ (4 : Int) = 0) }

theorem run_bank_at (W : World) (b off cap : Nat) (f : Nat → Int) (hf : ∀ i, 0 ≤ f i ∧ f i ≤ 255) (h : ∀ i, i < 64 → W.cell? ⟨b, off + i, none⟩ = some (.int .u8 (f i))) :
    (convert 72 9 (.slice (some ⟨b, off, none⟩) 64 cap)).run Tryz.prog W = .ok (.string (bankS f)) W := by
  have hl : ((List.range 64).map fun i => UInt8.ofNat (f i).toNat).length = 64 := by simp only [List.length_map, List.length_range]
  have hr := run_convert_bytes_back (P := Tryz.prog) W 72 9 5 ⟨b, off, none⟩ cap ((List.range 64).map fun i => UInt8.ofNat (f i).toNat) Tryz.underlying72 Tryz.underlying5 Tryz.underlying9 (fun j hj => by
    have ha : (⟨b, off, none⟩ : Addr).add j = ⟨b, off + j, none⟩ := by unfold Addr.add; split <;> simp_all
    rw [ha, h j (by omega)]
    simp only [List.getElem_map, List.getElem_range]
    rw [byte_of (f j) (hf j).1 (hf j).2])
  rw [hl] at hr
  exact hr

theorem run_bank (W : World) (b cap : Nat) (f : Nat → Int) (hf : ∀ i, 0 ≤ f i ∧ f i ≤ 255) (h : Raw b 64 (fun i => .int .u8 (f i)) W) :
    (convert 72 9 (.slice (some ⟨b, 0, none⟩) 64 cap)).run Tryz.prog W = .ok (.string (bankS f)) W :=
  run_bank_at W b 0 cap f hf (fun i hi => by rw [Nat.zero_add]; exact (h i hi).1)

end Go.Proofs.YtikdbpphbdbdnaaGreat
