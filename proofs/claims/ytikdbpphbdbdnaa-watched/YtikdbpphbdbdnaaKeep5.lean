/- Watched, walked over any board. -/
import Derived.Test.YtikdbpphbdbdnaaKa
import Derived.Test.YtikdbpphbdbdnaaKp
namespace Go.Proofs.Ytikdbpphbdbdnaa
open Go.RowKit
set_option linter.unusedVariables false

set_option maxRecDepth 100000 in
set_option maxHeartbeats 1000000 in
theorem watched_walk {B : PB} (hB : PBok B) (a b : ByteArray) (m n : Int) (pa : Option Addr) (pn pc : Nat) (w : World) (ha : a.size ≤ maxLen) (hb : b.size ≤ maxLen) (m0 : -9223372036854775808 ≤ m) (m1 : m ≤ 9223372036854775807) (n0 : -9223372036854775808 ≤ n) (n1 : n ≤ 9223372036854775807) (hpn : pn ≤ 8796093022208) (hp : pn = 0 ∨ ∃ b off, pa = some ⟨b, off, none⟩ ∧ IsParts w b off pn) :
    Calls Try.prog 4 #[.string a, .string b, .int .i64 m, .int .i64 n, .slice pa pn pc] w fun e w' => e = .returned (.bool true) ∧ Below w.heap.size w w' := by
  have HK : Hid _ := fun w => knows_any hB w
  have HBd : Hid _ := fun w => board_plain hB a b m n w ha hb m0 m1 n0 n1
  clear ha hb m0 m1 n0 n1
  go_enter Try.func4, Try.ntmps4
  go_wp2_with fail
  refine Calls.mono (HK.out _) ?_
  rintro e w1 ⟨rfl, b1⟩
  go_wp2_with fail
  refine Calls.mono (HBd.out _) ?_
  rintro e w2 ⟨l, rfl, r2, b2, o2⟩
  have lo : ∀ k, B.own l k → w.heap.size ≤ k := fun k hk => Nat.le_trans b1.size (o2 k hk)
  have bw : Below w.heap.size w w2 := b1.trans (b2.mono b1.size)
  have hi0 : Inv (newSt (imgQ a m) (imgQ b n)) := newSt_inv _ _
  clear HK HBd b1 b2 o2
  go_wp2
  go_loopw [13, 14, 15, 16, 17, 18] (fun t13 t14 t15 t16 t17 t18 wx => ∃ (j : Nat) (l1 : B.Lt) (st1 : St) (s : Int), (j : Int) ≤ 700 * (pn : Int) ∧ t14 = .int .i64 j ∧ t13 = .int .i64 s ∧ Since s st1 ∧ Inv st1 ∧ B.g l1 = B.g l ∧ B.rep j l1 st1 wx ∧ Below w.heap.size w wx ∧ (∀ k, B.own l1 k → w.heap.size ≤ k)) (fun _ t14 _ _ _ _ _ => 700 * pn + 1 - (intOf t14).toNat)
  case atStart => exact ⟨0, l, _, 0, by omega, rfl, rfl, Since.zero hi0, hi0, rfl, r2, bw, lo⟩
  case round =>
    obtain ⟨j, l1, st1, s, hj, rfl, rfl, hs, hi, hg, hr, hbw, ho⟩ := hrel
    clear r2 bw hi0 lo
    have HA : Hid _ := qat_any pa pn pc j wr (by unfold maxLen; omega) (by omega) (by omega) (by
      rcases hp with hp | ⟨b, off, e, hb, hp⟩
      · exact Or.inl hp
      · refine Or.inr ⟨b, off, e, Nat.lt_of_lt_of_le hb hbw.size, fun k hk => ?_⟩
        obtain ⟨t, rs, v, p, t0, t1, p0, p1, c0, c1, c2, c3⟩ := hp k hk
        exact ⟨t, rs, v, p, t0, t1, p0, p1, by rw [hbw.cell (by exact hb)]; exact c0, by rw [hbw.cell (by exact hb)]; exact c1, by rw [hbw.cell (by exact hb)]; exact c2, by rw [hbw.cell (by exact hb)]; exact c3⟩)
    clear hp
    go_wp2_with fail
    refine Calls.mono HA.out ?_
    rintro e w3 ⟨rs, v, p, more, rfl, p0, p1, hm, b3⟩
    have bw3 : Below w.heap.size w w3 := hbw.trans (b3.mono hbw.size)
    cases more with
    | false =>
      go_wp2
      go_ret
      exact ⟨rfl, bw3.alloc bw3.size _⟩
    | true =>
      have hj2 := hm rfl
      have r3 : B.rep j l1 st1 w3 := hB.kept hr (S := fun _ => False) (Kept.below b3) (fun _ _ x => x)
      have hlt3 : ∀ k, B.own l1 k → k < w3.heap.size := fun k hk => hB.lt r3 hk
      have HS : Hid (∀ W, B.rep j l1 st1 W → Calls Try.prog 16 #[.pointer (some ⟨B.g l, 0, none⟩), .agg #[.bool rs, .int .i64 v, .int .u8 p]] W fun e w' => e = .returned (.agg #[.int .i64 (st1.step ⟨rs, v, p⟩).2.kind, .int .i64 (st1.step ⟨rs, v, p⟩).2.addr, .int .u8 (st1.step ⟨rs, v, p⟩).2.data, .int .u8 (st1.step ⟨rs, v, p⟩).2.out]) ∧ ∃ l' : B.Lt, B.g l' = B.g l ∧ B.rep (j + 1) l' (st1.step ⟨rs, v, p⟩).1 w' ∧ Kept (B.own l1) W w' ∧ ∀ k, B.own l' k → B.own l1 k ∨ W.heap.size ≤ k) := fun W hW => by
        have h := hB.step j l1 st1 W rs v p hW (by omega) hi p0 p1
        rw [hg] at h
        exact h
      have HX : Hid (Since (since s (st1.step ⟨rs, v, p⟩).2) (st1.step ⟨rs, v, p⟩).1 ∧ Inv (st1.step ⟨rs, v, p⟩).1) := ⟨since_step hi ⟨rs, v, p⟩ ⟨p0, p1⟩ s hs, hi.step ⟨rs, v, p⟩ ⟨p0, p1⟩⟩
      have s0 := hs.lo
      have s1 := hs.hi
      generalize st1.step ⟨rs, v, p⟩ = R at HS HX
      obtain ⟨T, ck, ca, cd, co⟩ := R
      have r5 := fun o => hB.kept r3 (S := fun _ => False) ((Kept.refl _ w3).alloc o) (fun _ _ x => x)
      clear hm r3 hs hi hr HA b3
      go_wp2_with fail
      refine Calls.mono (HS.out _ (r5 _)) ?_
      rintro e w4 ⟨rfl, l2, g2, r4, k4, o4⟩
      have bw4 : Below w.heap.size w w4 := (bw3.alloc bw3.size _).trans ⟨k4.os, k4.tape, k4.output, k4.size, fun k hk => k4.block k (by rw [World.size_alloc]; have := bw3.size; omega) (fun h => by have := ho k h; omega)⟩
      have ho2 : ∀ k, B.own l2 k → w.heap.size ≤ k := fun k hk => by
        rcases o4 k hk with y | y
        · exact ho k y
        · rw [World.size_alloc] at y; have := bw3.size; omega
      have HW : Hid (∀ W, Calls Try.prog 17 #[.agg #[.int .i64 ck, .int .i64 ca, .int .u8 cd, .int .u8 co]] W fun e w' => e = .returned (.bool (decide (2 ≤ ck) && decide (ck ≤ 6))) ∧ Below W.heap.size W w') := fun W => qworks_any ck ca cd co W
      clear HS r5 k4 o4 ho bw3
      go_wp2_with fail
      refine Calls.mono (HW.out _) ?_
      rintro e w5 ⟨rfl, b5⟩
      have c5 : w5.cell? ⟨w4.heap.size, 0, none⟩ = some (.int .i64 ck) ∧ w5.cell? ⟨w4.heap.size, 1, none⟩ = some (.int .i64 ca) ∧ w5.cell? ⟨w4.heap.size, 2, none⟩ = some (.int .u8 cd) ∧ w5.cell? ⟨w4.heap.size, 3, none⟩ = some (.int .u8 co) := by
        refine ⟨?_, ?_, ?_, ?_⟩ <;> (rw [b5.cell (by rw [World.size_alloc]; exact Nat.lt_succ_self _)]; simp [go_sem])
      obtain ⟨c50, c51, c52, c53⟩ := c5
      have hz5 : w4.heap.size < w5.heap.size := by have := b5.size; rw [World.size_alloc] at this; omega
      have bw5 : Below w.heap.size w w5 := (bw4.alloc bw4.size _).trans (b5.mono (by rw [World.size_alloc]; have := bw4.size; omega))
      have r6 : B.rep (j + 1) l2 T w5 := hB.kept (hB.kept r4 (S := fun _ => False) ((Kept.refl _ w4).alloc _) (fun _ _ x => x)) (S := fun _ => False) (Kept.below b5) (fun _ _ x => x)
      clear HW r4 b5 bw4
      by_cases hw : 2 ≤ ck ∧ ck ≤ 6
      · rw [decide_eq_true hw.1, decide_eq_true hw.2]
        by_cases hf : ck = 6 ∧ ca = 195 ∧ cd = 105
        · obtain ⟨f1, f2, f3⟩ := hf
          subst f1 f2 f3
          have e0 : since s ⟨6, 195, 105, co⟩ = 0 := by unfold since; rw [if_neg (by simp)]
          have HY : Hid (Since 0 T ∧ Inv T) := by rw [← e0]; exact HX.out
          clear HX e0
          go_wp2
          exact ⟨⟨j + 1, l2, T, 0, by omega, by go_num, rfl, HY.out.1, HY.out.2, g2, r6, bw5, ho2⟩, by simp [intOf]; omega⟩
        · have e0 : since s ⟨ck, ca, cd, co⟩ = s + 1 := by unfold since; rw [if_pos ⟨hw, hf⟩]
          have HY : Hid (Since (s + 1) T ∧ Inv T) := by rw [← e0]; exact HX.out
          have hs1 := HY.out.1.hi
          clear HX e0
          by_cases h6 : ck = 6
          · subst h6
            by_cases h195 : ca = 195
            · subst h195
              have h105 : ¬ cd = 105 := fun x => hf ⟨rfl, rfl, x⟩
              clear hf
              go_wp2
              exact ⟨⟨j + 1, l2, T, s + 1, by omega, by go_num, rfl, HY.out.1, HY.out.2, g2, r6, bw5, ho2⟩, by simp [intOf]; omega⟩
            · clear hf
              go_wp2
              exact ⟨⟨j + 1, l2, T, s + 1, by omega, by go_num, rfl, HY.out.1, HY.out.2, g2, r6, bw5, ho2⟩, by simp [intOf]; omega⟩
          · clear hf
            go_wp2
            exact ⟨⟨j + 1, l2, T, s + 1, by omega, by go_num, rfl, HY.out.1, HY.out.2, g2, r6, bw5, ho2⟩, by simp [intOf]; omega⟩
      · have e0 : since s ⟨ck, ca, cd, co⟩ = 0 := by unfold since; rw [if_neg (fun x => hw x.1)]
        have HY : Hid (Since 0 T ∧ Inv T) := by rw [← e0]; exact HX.out
        have hwb : (decide (2 ≤ ck) && decide (ck ≤ 6)) = false := by
          rw [Bool.and_eq_false_iff]
          by_cases h2 : 2 ≤ ck
          · exact Or.inr (decide_eq_false (fun x => hw ⟨h2, x⟩))
          · exact Or.inl (decide_eq_false h2)
        rw [hwb]
        clear HX e0 hwb hw
        go_wp2
        exact ⟨⟨j + 1, l2, T, 0, by omega, by go_num, rfl, HY.out.1, HY.out.2, g2, r6, bw5, ho2⟩, by simp [intOf]; omega⟩

end Go.Proofs.Ytikdbpphbdbdnaa
