/- Of several texts, one behind the other. -/
import Derived.Test.YtikdbpphbdbdnaaBb
import Derived.KernelRfl
import Derived.Test.YtikdbpphbdbdnaaLawK
import Derived.Test.YtikdbpphbdbdnaaPairP
import Derived.RegionTactic
import Derived.BigRegion
import Derived.Test.YtikdbpphbdbdnaaBa
/- The board that jumps to itself, reckoned out: four held cycles, then the fetch at 0x82. -/
namespace Go.Proofs.Ytikdbpphbdbdnaa
set_option linter.unusedVariables false

def kImg : ByteArray := buildS ⟨#[16, 130]⟩ 7
def kIn : In := ⟨false, 5000, 0⟩
def kSt : Nat → St
  | 0 => newSt kImg kImg
  | n + 1 => ((kSt n).step kIn).1

theorem kImg_e : buildE ⟨#[16, 130]⟩ 7 = 0 := by kernel_rfl
theorem kImg_v : vldB kImg = true := by kernel_rfl
theorem kImg_s : kImg.size = 64 := by kernel_rfl
theorem k0 : ((kSt 0).step kIn).2 = ⟨0, 0, 0, 0⟩ := by kernel_rfl
theorem k1 : ((kSt 1).step kIn).2 = ⟨0, 0, 0, 0⟩ := by kernel_rfl
theorem k2 : ((kSt 2).step kIn).2 = ⟨0, 0, 0, 0⟩ := by kernel_rfl
theorem k3 : ((kSt 3).step kIn).2 = ⟨0, 0, 0, 0⟩ := by kernel_rfl
theorem k4 : ((kSt 4).step kIn).2 = ⟨3, 130, 16, 0⟩ := by kernel_rfl
theorem k5 : (kSt 5).bank = 0 ∧ (kSt 5).cause = 1 ∧ (kSt 5).age = 1 := ⟨by kernel_rfl, by kernel_rfl, by kernel_rfl⟩

end Go.Proofs.Ytikdbpphbdbdnaa

/- What the keeps share: pick, code, works, knows. -/
namespace Go.Proofs.Ytikdbpphbdbdnaa
open Go.RowKit
set_option linter.unusedVariables false

theorem qworks_any (k a d o : Int) (w : World) : Calls Try.prog 17 #[.agg #[.int .i64 k, .int .i64 a, .int .u8 d, .int .u8 o]] w fun e w' => e = .returned (.bool (decide (2 ≤ k) && decide (k ≤ 6))) ∧ Below w.heap.size w w' := by
  go_enter Try.func17, Try.ntmps17
  go_wp2
  · rename_i h
    go_ret
    exact ⟨by rw [decide_eq_true h, Bool.true_and]; rfl, (Below.refl _ w).alloc (Nat.le_refl _) _⟩
  · rename_i h
    go_ret
    exact ⟨by rw [decide_eq_false (by omega), Bool.false_and]; rfl, (Below.refl _ w).alloc (Nat.le_refl _) _⟩

/-- A program of 61 bytes at most. -/
def codeB (s : ByteArray) : ByteArray := if 61 < s.size then s.extract 0 61 else s

theorem qcode_any (s : ByteArray) (w : World) (hs : s.size ≤ maxLen) : Calls Try.prog 11 #[.string s] w fun e w' => e = .returned (.string (codeB s)) ∧ w' = w := by
  by_cases h : 61 < s.size
  · have h' : (61 : Int) < (s.size : Int) := by omega
    have e1 : codeB s = s.extract 0 61 := if_pos h
    rw [e1]
    go_enter Try.func11, Try.ntmps11
    go_wp2
    go_ret
    exact ⟨rfl, rfl⟩
  · have h' : ¬ (61 : Int) < (s.size : Int) := by omega
    have e1 : codeB s = s := if_neg h
    rw [e1]
    go_enter Try.func11, Try.ntmps11
    go_wp2
    go_ret
    exact ⟨rfl, rfl⟩

/-- Which of n things a raw number speaks of. -/
def pickQ (c n : Int) : Int := (if c < 0 then -(c + 1) else c) % n

theorem pickQ_bounds (c n : Int) (hn : 0 < n) : 0 ≤ pickQ c n ∧ pickQ c n < n := by
  unfold pickQ
  exact ⟨Int.emod_nonneg _ (by omega), Int.emod_lt_of_pos _ hn⟩

set_option maxHeartbeats 400000 in
theorem qpick_any (c n : Int) (w : World) (h0 : -9223372036854775808 ≤ c) (h1 : c ≤ 9223372036854775807) (hn : 0 < n) (hn1 : n ≤ 9223372036854775807) :
    Calls Try.prog 9 #[.int .i64 c, .int .i64 n] w fun e w' => e = .returned (.int .i64 (pickQ c n)) ∧ w' = w := by
  have hz : (n == 0) = false := beq_eq_false_iff_ne.2 (by omega)
  by_cases hc : c < 0
  · have HF : Hid (pickQ c n = -((c + 1).tmod n)) := by
      unfold Hid pickQ
      rw [if_pos hc, ← Int.neg_tmod, Int.tmod_eq_emod_of_nonneg (by omega)]
    go_enter Try.func9, Try.ntmps9
    go_wp2
    go_ret
    exact ⟨by rw [HF.out]; rfl, rfl⟩
  · have HF : Hid (pickQ c n = c % n) := by simp [Hid, pickQ, hc]
    go_enter Try.func9, Try.ntmps9
    go_wp2
    go_ret
    exact ⟨by rw [HF.out]; rfl, rfl⟩

end Go.Proofs.Ytikdbpphbdbdnaa

/- What the keeps share: knows: a board that jumps to itself is held for four cycles, then goes on. -/
namespace Go.Proofs.Ytikdbpphbdbdnaa
open Go.RowKit
set_option linter.unusedVariables false

theorem kSt_inv : ∀ j, Inv (kSt j)
  | 0 => newSt_inv _ _
  | j + 1 => (kSt_inv j).step kIn ⟨by decide, by decide⟩

theorem k_held : ∀ j, j < 4 → ((kSt j).step kIn).2 = ⟨0, 0, 0, 0⟩
  | 0, _ => k0
  | 1, _ => k1
  | 2, _ => k2
  | 3, _ => k3

theorem kstep {B : PB} (hB : PBok B) (j : Nat) (hj : j < 4) (l : B.Lt) (w : World) (hr : B.rep j l (kSt j) w) :
    Calls Try.prog 16 #[.pointer (some ⟨B.g l, 0, none⟩), .agg #[.bool false, .int .i64 5000, .int .u8 0]] w fun e w' => e = .returned (.agg #[.int .i64 0, .int .i64 0, .int .u8 0, .int .u8 0]) ∧ ∃ l' : B.Lt, B.g l' = B.g l ∧ B.rep (j + 1) l' (kSt (j + 1)) w' ∧ Kept (B.own l) w w' ∧ ∀ k, B.own l' k → B.own l k ∨ w.heap.size ≤ k := by
  have h := hB.step j l (kSt j) w false 5000 0 hr (by omega) (kSt_inv j) (by decide) (by decide)
  have e := k_held j hj
  unfold kIn at e
  rw [e] at h
  exact h

theorem kfetch {B : PB} (hB : PBok B) (l : B.Lt) (w : World) (hr : B.rep 4 l (kSt 4) w) :
    Calls Try.prog 16 #[.pointer (some ⟨B.g l, 0, none⟩), .agg #[.bool false, .int .i64 5000, .int .u8 0]] w fun e w' => e = .returned (.agg #[.int .i64 3, .int .i64 130, .int .u8 16, .int .u8 0]) ∧ ∃ l' : B.Lt, B.g l' = B.g l ∧ B.rep 5 l' (kSt 5) w' ∧ Kept (B.own l) w w' ∧ ∀ k, B.own l' k → B.own l k ∨ w.heap.size ≤ k := by
  have h := hB.step 4 l (kSt 4) w false 5000 0 hr (by omega) (kSt_inv 4) (by decide) (by decide)
  have e := k4
  unfold kIn at e
  rw [e] at h
  exact h

set_option maxRecDepth 100000 in
set_option maxHeartbeats 1000000 in
theorem knows_any {B : PB} (hB : PBok B) (w : World) : Calls Try.prog 8 #[] w fun e w' => e = .returned (.bool true) ∧ Below w.heap.size w w' := by
  have HB : Hid (∀ w, Calls Try.prog 10 #[.string ⟨#[16, 130]⟩, .int .i64 7] w fun e w' => e = .returned (.tuple #[.string kImg, .int .i64 0]) ∧ Below w.heap.size w w') := fun w => by
    have h := nBuild_any ⟨#[16, 130]⟩ 7 w
    rw [kImg_e] at h
    exact h
  have HV : Hid (∀ w, Calls Try.prog 12 #[.string kImg] w fun e w' => e = .returned (.bool true) ∧ w' = w) := fun w => by
    have h := nValid_any kImg w (by rw [kImg_s]; decide)
    rw [kImg_v] at h
    exact h
  have HN : Hid (∀ w, Calls Try.prog 21 #[.string kImg, .string kImg] w fun e w' => ∃ l : B.Lt, e = .returned (.tuple #[.pointer (some ⟨B.g l, 0, none⟩), .int .i64 0]) ∧ B.rep 0 l (kSt 0) w' ∧ Below w.heap.size w w' ∧ ∀ k, B.own l k → w.heap.size ≤ k) := fun w => hB.new_ok kImg kImg w kImg_s kImg_s
  go_enter Try.func8, Try.ntmps8
  go_wp2_with (first | (go_at_call 10; refine Calls.mono (HB.out _) ?_; rintro e w1 ⟨rfl, b1⟩) | (go_at_call 12; refine Calls.mono (HV.out _) ?_; rintro e w2 ⟨rfl, rfl⟩) | (go_at_call 21; refine Calls.mono (HN.out _) ?_; rintro e w3 ⟨l, rfl, r3, b3, o3⟩))
  obtain ⟨W0, hW0⟩ : ∃ W0, W0 = w3.alloc (.cells #[.bool false, .int .i64 5000, .int .u8 0] 37) := ⟨_, rfl⟩
  have z0 : W0.heap.size = w3.heap.size + 1 := by rw [hW0, World.size_alloc]
  have c0 : W0.cell? ⟨w3.heap.size, 0, none⟩ = some (.bool false) ∧ W0.cell? ⟨w3.heap.size, 1, none⟩ = some (.int .i64 5000) ∧ W0.cell? ⟨w3.heap.size, 2, none⟩ = some (.int .u8 0) := by
    rw [hW0]
    exact ⟨by simp [go_sem], by simp [go_sem], by simp [go_sem]⟩
  have r0 : B.rep 0 l (kSt 0) W0 := by rw [hW0]; exact hB.kept r3 (S := fun _ => False) ((Kept.refl _ _).alloc _) (fun _ _ x => x)
  have bw : Below w.heap.size w W0 := by
    rw [hW0]
    exact (b1.trans (b3.mono b1.size)).alloc (Nat.le_trans b1.size b3.size) _
  have lo : ∀ k, B.own l k → w.heap.size ≤ k ∧ k < w3.heap.size := fun k hk => ⟨Nat.le_trans b1.size (o3 k hk), hB.lt r3 hk⟩
  have hw3 : w.heap.size ≤ w3.heap.size := Nat.le_trans b1.size b3.size
  rw [← hW0]
  clear hW0 r3 b3 o3 b1 HB HV HN
  go_loopw [7] (fun i wx => ∃ (j : Nat) (l1 : B.Lt), j ≤ 4 ∧ i = .int .i64 j ∧ B.g l1 = B.g l ∧ B.rep j l1 (kSt j) wx ∧ Below w.heap.size w wx ∧ (wx.cell? ⟨w3.heap.size, 0, none⟩ = some (.bool false) ∧ wx.cell? ⟨w3.heap.size, 1, none⟩ = some (.int .i64 5000) ∧ wx.cell? ⟨w3.heap.size, 2, none⟩ = some (.int .u8 0)) ∧ w3.heap.size < wx.heap.size ∧ (∀ k, B.own l1 k → w.heap.size ≤ k ∧ k ≠ w3.heap.size)) (fun i _ => 4 - (intOf i).toNat)
  case atStart => exact ⟨0, l, by omega, rfl, rfl, r0, bw, c0, by omega, fun k hk => ⟨(lo k hk).1, by have := (lo k hk).2; omega⟩⟩
  case round =>
    obtain ⟨j, l1, hj, rfl, hg, hr, hbw, ⟨x0, x1, x2⟩, hlt, ho⟩ := hrel
    by_cases h4 : j = 4
    · subst h4
      have HF : Hid _ := kfetch hB l1 wr hr
      rw [hg] at HF
      go_wp2_with fail
      refine Calls.mono HF.out ?_
      rintro e w4 ⟨rfl, l2, g2, r4, k4', o4⟩
      have HT : Hid (∀ W, B.rep 5 l2 (kSt 5) W → Calls Try.prog 18 #[.pointer (some ⟨B.g l, 0, none⟩)] W fun e w' => e = .returned (.agg #[.int .i64 (kSt 5).a, .int .i64 (kSt 5).x, .int .i64 (kSt 5).pc, .bool (kSt 5).zero, .bool (kSt 5).carry, .int .i64 0, .int .i64 (kSt 5).s0, .int .i64 (kSt 5).s1, .int .i64 1, .int .i64 1, .int .i64 (kSt 5).count, .bool (kSt 5).flag]) ∧ Below W.heap.size W w') := fun W hW => by
        have h := hB.tell 5 l2 (kSt 5) W hW (kSt_inv 5)
        unfold St.told at h
        rw [k5.1, k5.2.1, k5.2.2, g2] at h
        exact h.mono fun e w' ⟨q1, _, q3⟩ => ⟨q1, q3⟩
      have r5 := fun o => hB.kept r4 (S := fun _ => False) ((Kept.refl _ w4).alloc o) (fun _ _ x => x)
      have bw4 : Below w.heap.size w w4 := hbw.trans ⟨k4'.os, k4'.tape, k4'.output, k4'.size, fun k hk => k4'.block k (Nat.lt_of_lt_of_le hk hbw.size) (fun h => by have := (ho k h).1; omega)⟩
      clear HF hr ho x0 x1 x2 o4 k4' r4
      go_wp2_with fail
      refine Calls.mono (HT.out _ (r5 _)) ?_
      rintro e w5 ⟨rfl, b5⟩
      have bw5 : Below w.heap.size w w5 := (bw4.alloc bw4.size _).trans (b5.mono (by rw [World.size_alloc]; have := bw4.size; omega))
      have c5 : w5.cell? ⟨w4.heap.size, 0, none⟩ = some (.int .i64 3) ∧ w5.cell? ⟨w4.heap.size, 1, none⟩ = some (.int .i64 130) ∧ w5.cell? ⟨w4.heap.size, 2, none⟩ = some (.int .u8 16) ∧ w5.cell? ⟨w4.heap.size, 3, none⟩ = some (.int .u8 0) := by
        refine ⟨?_, ?_, ?_, ?_⟩ <;> (rw [b5.cell (by rw [World.size_alloc]; exact Nat.lt_succ_self _)]; simp [go_sem])
      obtain ⟨c50, c51, c52, c53⟩ := c5
      have hz5 : w4.heap.size < w5.heap.size := by have := b5.size; rw [World.size_alloc] at this; omega
      clear HT r5 b5
      go_wp2
      go_ret
      exact ⟨rfl, bw5.alloc bw5.size _⟩
    · have h4' : (j : Int) < 4 := by omega
      have HC : Hid (Calls Try.prog 16 #[.pointer (some ⟨B.g l, 0, none⟩), .agg #[.bool false, .int .i64 5000, .int .u8 0]] wr _) := hg ▸ kstep hB j (by omega) l1 wr hr
      go_wp2_with fail
      refine Calls.mono HC.out ?_
      rintro e w4 ⟨rfl, l2, g2, r4, k4', o4⟩
      have r5 := fun o => hB.kept r4 (S := fun _ => False) ((Kept.refl _ w4).alloc o) (fun _ _ x => x)
      have k5' := fun o => k4'.alloc o
      have hni : ¬ B.own l1 w3.heap.size := fun h => (ho _ h).2 rfl
      go_wp2
      exact ⟨⟨j + 1, l2, by omega, by go_num, g2, r5 _, hbw.trans ⟨(k5' _).os, (k5' _).tape, (k5' _).output, (k5' _).size, fun k hk => (k5' _).block k (Nat.lt_of_lt_of_le hk hbw.size) (fun h => by have := (ho k h).1; omega)⟩, ⟨by rw [(k5' _).cell hlt hni]; exact x0, by rw [(k5' _).cell hlt hni]; exact x1, by rw [(k5' _).cell hlt hni]; exact x2⟩, Nat.lt_of_lt_of_le hlt (k5' _).size, fun k hk => by
        rcases o4 k hk with y | y
        · exact ho k y
        · have := hbw.size
          exact ⟨by omega, by omega⟩⟩, by simp [intOf]; omega⟩

end Go.Proofs.Ytikdbpphbdbdnaa

/- What the keeps share: board: a board with two programs, none spoilt. -/
namespace Go.Proofs.Ytikdbpphbdbdnaa
open Go.RowKit
set_option linter.unusedVariables false

theorem codeB_size (s : ByteArray) : (codeB s).size ≤ 61 := by
  unfold codeB
  split
  · rw [ByteArray.size_extract]; omega
  · omega

/-- The image of a program that was cut, with its number. -/
def imgQ (s : ByteArray) (n : Int) : ByteArray := buildS (codeB s) (pickQ n 256)

theorem imgQ_e (s : ByteArray) (n : Int) : buildE (codeB s) (pickQ n 256) = 0 := by
  have h1 := codeB_size s
  have h2 := pickQ_bounds n 256 (by omega)
  unfold buildE
  rw [if_neg (by omega), if_neg (by omega)]

theorem imgQ_s (s : ByteArray) (n : Int) : (imgQ s n).size = 64 := by
  have h1 := codeB_size s
  have h2 := pickQ_bounds n 256 (by omega)
  unfold imgQ buildS
  rw [if_neg (by omega), if_neg (by omega)]
  exact imageOf_size _ _ h1

theorem imgQ_build (s : ByteArray) (n : Int) (w : World) : Calls Try.prog 10 #[.string (codeB s), .int .i64 (pickQ n 256)] w fun e w' => e = .returned (.tuple #[.string (imgQ s n), .int .i64 0]) ∧ Below w.heap.size w w' := by
  have h := nBuild_any (codeB s) (pickQ n 256) w
  rw [imgQ_e] at h
  exact h

set_option maxRecDepth 100000 in
set_option maxHeartbeats 1000000 in
theorem board_plain {B : PB} (hB : PBok B) (a b : ByteArray) (m n : Int) (w : World) (ha : a.size ≤ maxLen) (hb : b.size ≤ maxLen) (m0 : -9223372036854775808 ≤ m) (m1 : m ≤ 9223372036854775807) (n0 : -9223372036854775808 ≤ n) (n1 : n ≤ 9223372036854775807) :
    Calls Try.prog 14 #[.string a, .string b, .int .i64 m, .int .i64 n, .int .i64 (-1)] w fun e w' => ∃ l : B.Lt, e = .returned (.pointer (some ⟨B.g l, 0, none⟩)) ∧ B.rep 0 l (newSt (imgQ a m) (imgQ b n)) w' ∧ Below w.heap.size w w' ∧ ∀ k, B.own l k → w.heap.size ≤ k := by
  have HC : Hid (∀ s w, s.size ≤ maxLen → Calls Try.prog 11 #[.string s] w fun e w' => e = .returned (.string (codeB s)) ∧ w' = w) := fun s w h => qcode_any s w h
  have HP1 : Hid (∀ w, Calls Try.prog 9 #[.int .i64 m, .int .i64 256] w fun e w' => e = .returned (.int .i64 (pickQ m 256)) ∧ w' = w) := fun w => qpick_any m 256 w m0 m1 (by omega) (by omega)
  have HP2 : Hid (∀ w, Calls Try.prog 9 #[.int .i64 n, .int .i64 256] w fun e w' => e = .returned (.int .i64 (pickQ n 256)) ∧ w' = w) := fun w => qpick_any n 256 w n0 n1 (by omega) (by omega)
  have HN : Hid (∀ w, Calls Try.prog 21 #[.string (imgQ a m), .string (imgQ b n)] w fun e w' => ∃ l : B.Lt, e = .returned (.tuple #[.pointer (some ⟨B.g l, 0, none⟩), .int .i64 0]) ∧ B.rep 0 l (newSt (imgQ a m) (imgQ b n)) w' ∧ Below w.heap.size w w' ∧ ∀ k, B.own l k → w.heap.size ≤ k) := fun w => hB.new_ok _ _ w (imgQ_s a m) (imgQ_s b n)
  have HA : Hid _ := ha
  have HBs : Hid _ := hb
  have s1 := imgQ_s a m
  have s2 := imgQ_s b n
  clear ha hb m0 m1 n0 n1
  go_enter Try.func14, Try.ntmps14
  go_wp2_with fail
  refine Calls.mono (HC.out a _ HA.out) ?_
  rintro e v1 ⟨rfl, rfl⟩
  go_wp2_with fail
  refine Calls.mono (HP1.out _) ?_
  rintro e v3 ⟨rfl, rfl⟩
  go_wp2_with fail
  refine Calls.mono (imgQ_build a m _) ?_
  rintro e w1 ⟨rfl, b1⟩
  go_wp2_with fail
  refine Calls.mono (HC.out b _ HBs.out) ?_
  rintro e v2 ⟨rfl, rfl⟩
  go_wp2_with fail
  refine Calls.mono (HP2.out _) ?_
  rintro e v4 ⟨rfl, rfl⟩
  go_wp2_with fail
  refine Calls.mono (imgQ_build b n _) ?_
  rintro e w2 ⟨rfl, b2⟩
  go_wp2_with fail
  refine Calls.mono (HN.out _) ?_
  rintro e w3 ⟨l, rfl, r3, b3, o3⟩
  go_wp2
  go_ret
  exact ⟨l, rfl, r3, (b1.trans (b2.mono b1.size)).trans (b3.mono (Nat.le_trans b1.size b2.size)), fun k hk => Nat.le_trans (Nat.le_trans b1.size b2.size) (o3 k hk)⟩

end Go.Proofs.Ytikdbpphbdbdnaa

/- What the keeps share: at: the input of a cycle. -/
namespace Go.Proofs.Ytikdbpphbdbdnaa
open Go.RowKit
set_option linter.unusedVariables false

/-- A row of parts in memory. -/
def IsParts (w : World) (b off n : Nat) : Prop := b < w.heap.size ∧ ∀ k, k < n → ∃ (t : Int) (rs : Bool) (v p : Int), -9223372036854775808 ≤ t ∧ t ≤ 9223372036854775807 ∧ 0 ≤ p ∧ p ≤ 255 ∧
  w.cell? ⟨b, off + k * 4, none⟩ = some (.int .i64 t) ∧ w.cell? ⟨b, off + k * 4 + 1, none⟩ = some (.bool rs) ∧ w.cell? ⟨b, off + k * 4 + 2, none⟩ = some (.int .i64 v) ∧ w.cell? ⟨b, off + k * 4 + 3, none⟩ = some (.int .u8 p)

/-- What at answers: an input and whether there is one; if so, the cycle's number is not too great. -/
def AtR (n : Nat) (i : Int) (w : World) (e : Ending) (w' : World) : Prop := ∃ (rs : Bool) (v p : Int) (more : Bool), e = .returned (.tuple #[.agg #[.bool rs, .int .i64 v, .int .u8 p], .bool more]) ∧ 0 ≤ p ∧ p ≤ 255 ∧ (more = true → i < 700 * (n : Int)) ∧ Below w.heap.size w w'

set_option maxRecDepth 100000 in
set_option maxHeartbeats 1000000 in
theorem qat_any (a : Option Addr) (n cap : Nat) (i : Int) (w : World) (hn : n ≤ maxLen) (i0 : 0 ≤ i) (i1 : i ≤ 9223372036854775807) (ha : n = 0 ∨ ∃ b off, a = some ⟨b, off, none⟩ ∧ IsParts w b off n) :
    Calls Try.prog 15 #[.slice a n cap, .int .i64 i] w (AtR n i w) := by
  go_enter Try.func15, Try.ntmps15
  unfold maxLen at hn
  go_wp2
  go_loop [1, 7, 8] (fun t1 t7 t8 => ∃ (j : Nat) (i' : Int), j ≤ n ∧ t7 = .int .i64 j ∧ t1 = .int .i64 i' ∧ 0 ≤ i' ∧ i' ≤ i ∧ i ≤ i' + 700 * j) (fun _ t7 _ => n - (intOf t7).toNat)
  case atStart => exact ⟨0, i, by omega, rfl, rfl, i0, by omega, by omega⟩
  case round =>
    obtain ⟨j, i', hj, rfl, rfl, j0, j1, j2⟩ := hrel
    by_cases h : j < n
    · have h' : (j : Int) < (n : Int) := by omega
      rcases ha with ha | ⟨b, off, rfl, hb, hp⟩
      · omega
      obtain ⟨t, rs, v, p, t0, t1, p0, p1, c0, c1, c2, c3⟩ := hp j h
      have HP : Hid (∀ w, Calls Try.prog 9 #[.int .i64 t, .int .i64 700] w fun e w' => e = .returned (.int .i64 (pickQ t 700)) ∧ w' = w) := fun w => qpick_any t 700 w t0 t1 (by omega) (by omega)
      obtain ⟨q0, q1⟩ := pickQ_bounds t 700 (by omega)
      clear hp
      go_wp2_with fail
      refine Calls.mono (HP.out _) ?_
      rintro e w1 ⟨rfl, rfl⟩
      by_cases hlt : i' < pickQ t 700
      · go_wp2
        refine bodyPost_ret (v := .tuple #[.agg #[.bool rs, .int .i64 v, .int .u8 p], .bool true]) (by simp [results, Try.results15, go_sem]) rfl ?_
        refine ⟨rs, v, p, true, rfl, p0, p1, (fun _ => by omega), ?_⟩
        exact ((Below.refl _ w).alloc (Nat.le_refl _) _).alloc (by rw [World.size_alloc]; omega) _
      · have hlt' : pickQ t 700 ≤ i' := by omega
        go_wp2
        exact ⟨⟨j + 1, i' - pickQ t 700, by omega, by go_num, rfl, by omega, by omega, by omega⟩, by simp [intOf]; omega⟩
    · have h' : ¬ (j : Int) < (n : Int) := by omega
      go_wp2
      refine bodyPost_ret (v := .tuple #[.agg #[.bool false, .int .i64 0, .int .u8 0], .bool false]) (by simp [results, Try.results15, go_sem]) rfl ?_
      refine ⟨false, 0, 0, false, rfl, by decide, by decide, (fun x => by cases x), ?_⟩
      exact ((Below.refl _ w).alloc (Nat.le_refl _) _).alloc (by rw [World.size_alloc]; omega) _

end Go.Proofs.Ytikdbpphbdbdnaa
