/- Guarded, walked over any board. -/
import Derived.Test.YtikdbpphbdbdnaaKa
import Derived.Test.YtikdbpphbdbdnaaKp
import Derived.Test.YtikdbpphbdbdnaaPairQ
namespace Go.Proofs.Ytikdbpphbdbdnaa
open Go.RowKit
set_option linter.unusedVariables false

/-- What the statement asks of one cycle. -/
theorem guard_asks {st : St} (hi : Inv st) (rs : Bool) (v p : Int) :
    (¬ bankS st.b0 = bankS (st.step ⟨rs, v, p⟩).1.b0 → (2 ≤ (st.step ⟨rs, v, p⟩).2.kind ∧ (st.step ⟨rs, v, p⟩).2.kind ≤ 6) ∧ st.bank = 1) ∧
    (¬ bankS st.b1 = bankS (st.step ⟨rs, v, p⟩).1.b1 → (2 ≤ (st.step ⟨rs, v, p⟩).2.kind ∧ (st.step ⟨rs, v, p⟩).2.kind ≤ 6) ∧ st.bank = 0) := by
  obtain ⟨g1, g2, g3⟩ := step_guard st ⟨rs, v, p⟩
  have hb := hi.bank
  refine ⟨fun h => ?_, fun h => ?_⟩
  · refine ⟨Classical.byContradiction fun x => h (by rw [(g1 x).1]), ?_⟩
    have n0 : ¬ st.bank = 0 := fun x => h (by rw [g2.1 x])
    have n1 : ¬ st.bank < 0 := fun x => h (by rw [(g3 x).1])
    omega
  · refine ⟨Classical.byContradiction fun x => h (by rw [(g1 x).2]), ?_⟩
    have n0 : ¬ st.bank = 1 := fun x => h (by rw [g2.2 x])
    have n1 : ¬ st.bank < 0 := fun x => h (by rw [(g3 x).2])
    omega

theorem run_told_bank (W : World) (v0 v1 v2 v3 v4 v5 v6 v7 v8 v9 v10 v11 : Value) : (Instr.field 46 (.agg #[v0, v1, v2, v3, v4, v5, v6, v7, v8, v9, v10, v11]) 5).run Try.prog W = .ok v5 W := by kernel_rfl

set_option maxRecDepth 100000 in
set_option maxHeartbeats 2000000 in
theorem guarded_walk {B : PB} (hB : PBok B) (hM : PBmore B) (a b : ByteArray) (m n : Int) (pa : Option Addr) (pn pc : Nat) (w : World) (ha : a.size ≤ maxLen) (hb : b.size ≤ maxLen) (m0 : -9223372036854775808 ≤ m) (m1 : m ≤ 9223372036854775807) (n0 : -9223372036854775808 ≤ n) (n1 : n ≤ 9223372036854775807) (hpn : pn ≤ 8796093022208) (hp : pn = 0 ∨ ∃ b off, pa = some ⟨b, off, none⟩ ∧ IsParts w b off pn) :
    Calls Try.prog 6 #[.string a, .string b, .int .i64 m, .int .i64 n, .slice pa pn pc] w fun e w' => e = .returned (.bool true) ∧ Below w.heap.size w w' := by
  have HK : Hid _ := fun w => knows_any hB w
  have HBd : Hid _ := fun w => board_plain hB a b m n w ha hb m0 m1 n0 n1
  clear ha hb m0 m1 n0 n1
  go_enter Try.func6, Try.ntmps6
  go_wp2_with fail
  refine Calls.mono (HK.out _) ?_
  rintro e w1 ⟨rfl, b1⟩
  go_wp2_with fail
  refine Calls.mono (HBd.out _) ?_
  rintro e w2 ⟨l, rfl, r2, b2, o2⟩
  have lo : ∀ k, B.own l k → w.heap.size ≤ k := fun k hk => Nat.le_trans b1.size (o2 k hk)
  have bw : Below w.heap.size w w2 := b1.trans (b2.mono b1.size)
  have hi0 : Inv (newSt (imgQ a m) (imgQ b n)) := newSt_inv _ _
  clear HK HBd b1 b2 o2
  go_wp2
  have HI0 : Hid (∀ (n : Nat) (l1 : B.Lt) (st : St) (W : World), B.rep n l1 st W → Inv st → B.g l1 = B.g l → Calls Try.prog 19 #[.pointer (some ⟨B.g l, 0, none⟩), .int .i64 0] W fun e w' => e = .returned (.tuple #[.string (bankS st.b0), .int .i64 0]) ∧ Below W.heap.size W w') := fun n l1 st W h1 h2 h3 => by
    have h := hM.image n l1 st W 0 h1 h2
    rw [h3] at h
    exact h
  have HI1 : Hid (∀ (n : Nat) (l1 : B.Lt) (st : St) (W : World), B.rep n l1 st W → Inv st → B.g l1 = B.g l → Calls Try.prog 19 #[.pointer (some ⟨B.g l, 0, none⟩), .int .i64 1] W fun e w' => e = .returned (.tuple #[.string (bankS st.b1), .int .i64 0]) ∧ Below W.heap.size W w') := fun n l1 st W h1 h2 h3 => by
    have h := hM.image n l1 st W 1 h1 h2
    rw [h3] at h
    exact h
  go_loopw [13] (fun t13 wx => ∃ (j : Nat) (l1 : B.Lt) (st1 : St), (j : Int) ≤ 700 * (pn : Int) ∧ t13 = .int .i64 j ∧ Inv st1 ∧ B.g l1 = B.g l ∧ B.rep j l1 st1 wx ∧ Below w.heap.size w wx ∧ (∀ k, B.own l1 k → w.heap.size ≤ k)) (fun t13 _ => 700 * pn + 1 - (intOf t13).toNat)
  case atStart => exact ⟨0, l, _, by omega, rfl, hi0, rfl, r2, bw, lo⟩
  case round =>
    obtain ⟨j, l1, st1, hj, rfl, hi, hg, hr, hbw, ho⟩ := hrel
    clear r2 bw hi0 lo
    have HA : Hid _ := qat_any pa pn pc j wr (by unfold maxLen; omega) (by omega) (by omega) (by
      rcases hp with hp | ⟨b, off, e, hb, hp⟩
      · exact Or.inl hp
      · refine Or.inr ⟨b, off, e, Nat.lt_of_lt_of_le hb hbw.size, fun k hk => ?_⟩
        obtain ⟨t, rs, v, p, t0, t1, p0, p1, c0, c1, c2, c3⟩ := hp k hk
        exact ⟨t, rs, v, p, t0, t1, p0, p1, by rw [hbw.cell (by exact hb)]; exact c0, by rw [hbw.cell (by exact hb)]; exact c1, by rw [hbw.cell (by exact hb)]; exact c2, by rw [hbw.cell (by exact hb)]; exact c3⟩)
    clear hp
    go_wp2_with fail
    refine Calls.mono HA.out ?_
    rintro e w3 ⟨rs, v, p, more, rfl, p0, p1, hm, b3⟩
    have bw3 : Below w.heap.size w w3 := hbw.trans (b3.mono hbw.size)
    cases more with
    | false =>
      go_wp2
      go_ret
      exact ⟨rfl, bw3.alloc bw3.size _⟩
    | true =>
      have hj2 := hm rfl
      have r3 : B.rep j l1 st1 w3 := hB.kept hr (S := fun _ => False) (Kept.below b3) (fun _ _ x => x)
      have HG : Hid _ := guard_asks hi rs v p
      have HX : Hid (Inv (st1.step ⟨rs, v, p⟩).1) := hi.step ⟨rs, v, p⟩ ⟨p0, p1⟩
      have HS : Hid (∀ W, B.rep j l1 st1 W → Calls Try.prog 16 #[.pointer (some ⟨B.g l, 0, none⟩), .agg #[.bool rs, .int .i64 v, .int .u8 p]] W fun e w' => e = .returned (.agg #[.int .i64 (st1.step ⟨rs, v, p⟩).2.kind, .int .i64 (st1.step ⟨rs, v, p⟩).2.addr, .int .u8 (st1.step ⟨rs, v, p⟩).2.data, .int .u8 (st1.step ⟨rs, v, p⟩).2.out]) ∧ ∃ l' : B.Lt, B.g l' = B.g l ∧ B.rep (j + 1) l' (st1.step ⟨rs, v, p⟩).1 w' ∧ Kept (B.own l1) W w' ∧ ∀ k, B.own l' k → B.own l1 k ∨ W.heap.size ≤ k) := fun W hW => by
        have h := hB.step j l1 st1 W rs v p hW (by omega) hi p0 p1
        rw [hg] at h
        exact h
      have HT : Hid (∀ W, B.rep j l1 st1 W → Calls Try.prog 18 #[.pointer (some ⟨B.g l, 0, none⟩)] W fun e w' => e = .returned st1.told ∧ Below W.heap.size W w') := fun W hW => by
        have h := hB.tell j l1 st1 W hW hi
        rw [hg] at h
        exact h.mono fun e w' ⟨q1, _, q3⟩ => ⟨q1, q3⟩
      have HJ0 : Hid _ := fun W hW => HI0.out j l1 st1 W hW hi hg
      have HJ1 : Hid _ := fun W hW => HI1.out j l1 st1 W hW hi hg
      have r4 : B.rep j l1 st1 (w3.alloc (.cells #[.bool rs, .int .i64 v, .int .u8 p] 37)) := hB.kept r3 (S := fun _ => False) ((Kept.refl _ w3).alloc _) (fun _ _ x => x)
      have bw4 : Below w.heap.size w (w3.alloc (.cells #[.bool rs, .int .i64 v, .int .u8 p] 37)) := bw3.alloc bw3.size _
      clear hm HA b3 hr hi r3
      go_wp2_with fail
      refine Calls.mono (HJ0.out _ r4) ?_
      rintro e w5 ⟨rfl, b5⟩
      have r5 := hB.kept r4 (S := fun _ => False) (Kept.below b5) (fun _ _ x => x)
      have bw5 := bw4.trans (b5.mono bw4.size)
      have z5 : w3.heap.size < w5.heap.size := by have := b5.size; rw [World.size_alloc] at this; omega
      have y5 : w5.cell? ⟨w3.heap.size, 0, none⟩ = some (.bool rs) ∧ w5.cell? ⟨w3.heap.size, 1, none⟩ = some (.int .i64 v) ∧ w5.cell? ⟨w3.heap.size, 2, none⟩ = some (.int .u8 p) := by
        refine ⟨?_, ?_, ?_⟩ <;> (rw [b5.cell (by rw [World.size_alloc]; exact Nat.lt_succ_self _)]; simp [go_sem])
      clear b5 HJ0 r4 bw4
      go_wp2_with fail
      refine Calls.mono (HJ1.out _ r5) ?_
      rintro e w6 ⟨rfl, b6⟩
      have r6 := hB.kept r5 (S := fun _ => False) (Kept.below b6) (fun _ _ x => x)
      have bw6 := bw5.trans (b6.mono bw5.size)
      have z6 : w3.heap.size < w6.heap.size := Nat.lt_of_lt_of_le z5 b6.size
      have y6 : w6.cell? ⟨w3.heap.size, 0, none⟩ = some (.bool rs) ∧ w6.cell? ⟨w3.heap.size, 1, none⟩ = some (.int .i64 v) ∧ w6.cell? ⟨w3.heap.size, 2, none⟩ = some (.int .u8 p) := ⟨by rw [b6.cell z5]; exact y5.1, by rw [b6.cell z5]; exact y5.2.1, by rw [b6.cell z5]; exact y5.2.2⟩
      clear b6 HJ1 r5 bw5 y5 z5
      go_wp2_with fail
      refine Calls.mono (HT.out _ r6) ?_
      rintro e w7 ⟨rfl, b7⟩
      have r7 := hB.kept r6 (S := fun _ => False) (Kept.below b7) (fun _ _ x => x)
      have bw7 := bw6.trans (b7.mono bw6.size)
      have z7 : w3.heap.size < w7.heap.size := Nat.lt_of_lt_of_le z6 b7.size
      have y7 : w7.cell? ⟨w3.heap.size, 0, none⟩ = some (.bool rs) ∧ w7.cell? ⟨w3.heap.size, 1, none⟩ = some (.int .i64 v) ∧ w7.cell? ⟨w3.heap.size, 2, none⟩ = some (.int .u8 p) := ⟨by rw [b7.cell z6]; exact y6.1, by rw [b7.cell z6]; exact y6.2.1, by rw [b7.cell z6]; exact y6.2.2⟩
      clear b7 HT r6 bw6 y6 z6
      obtain ⟨y70, y71, y72⟩ := y7
      unfold St.told
      have hf := run_told_bank
      go_wp2_with fail
      refine Calls.mono (HS.out _ r7) ?_
      rintro e w8 ⟨rfl, l2, g2, r8, k8, o8⟩
      generalize st1.step ⟨rs, v, p⟩ = R at HG HX r8 ⊢
      obtain ⟨T, ck, ca, cd, co⟩ := R
      have bw8 : Below w.heap.size w w8 := bw7.trans ⟨k8.os, k8.tape, k8.output, k8.size, fun k hk => k8.block k (by have := bw7.size; omega) (fun h => by have := ho k h; omega)⟩
      have ho2 : ∀ k, B.own l2 k → w.heap.size ≤ k := fun k hk => by
        rcases o8 k hk with y | y
        · exact ho k y
        · have := bw7.size; omega
      have HL0 : Hid _ := fun W hW => HI0.out (j + 1) l2 T W hW HX.out g2
      have HL1 : Hid _ := fun W hW => HI1.out (j + 1) l2 T W hW HX.out g2
      have r9 : B.rep (j + 1) l2 T (w8.alloc (.cells #[.int .i64 ck, .int .i64 ca, .int .u8 cd, .int .u8 co] 41)) := hB.kept r8 (S := fun _ => False) ((Kept.refl _ w8).alloc _) (fun _ _ x => x)
      have bw9 : Below w.heap.size w (w8.alloc (.cells #[.int .i64 ck, .int .i64 ca, .int .u8 cd, .int .u8 co] 41)) := bw8.alloc bw8.size _
      clear HS r7 k8 o8 bw7 z7 y70 y71 y72 HI0 HI1 hf r8
      go_wp2_with fail
      refine Calls.mono (HL0.out _ r9) ?_
      rintro e w10 ⟨rfl, b10⟩
      have r10 := hB.kept r9 (S := fun _ => False) (Kept.below b10) (fun _ _ x => x)
      have bw10 := bw9.trans (b10.mono bw9.size)
      have z10 : w8.heap.size < w10.heap.size := by have := b10.size; rw [World.size_alloc] at this; omega
      have y10 : w10.cell? ⟨w8.heap.size, 0, none⟩ = some (.int .i64 ck) ∧ w10.cell? ⟨w8.heap.size, 1, none⟩ = some (.int .i64 ca) ∧ w10.cell? ⟨w8.heap.size, 2, none⟩ = some (.int .u8 cd) ∧ w10.cell? ⟨w8.heap.size, 3, none⟩ = some (.int .u8 co) := by
        refine ⟨?_, ?_, ?_, ?_⟩ <;> (rw [b10.cell (by rw [World.size_alloc]; exact Nat.lt_succ_self _)]; simp [go_sem])
      clear b10 HL0 r9 bw9
      go_wp2_with fail
      refine Calls.mono (HL1.out _ r10) ?_
      rintro e w11 ⟨rfl, b11⟩
      have r11 := hB.kept r10 (S := fun _ => False) (Kept.below b11) (fun _ _ x => x)
      have bw11 := bw10.trans (b11.mono bw10.size)
      have z11 : w8.heap.size < w11.heap.size := Nat.lt_of_lt_of_le z10 b11.size
      have c50 : w11.cell? ⟨w8.heap.size, 0, none⟩ = some (.int .i64 ck) := by rw [b11.cell z10]; exact y10.1
      have c51 : w11.cell? ⟨w8.heap.size, 1, none⟩ = some (.int .i64 ca) := by rw [b11.cell z10]; exact y10.2.1
      have c52 : w11.cell? ⟨w8.heap.size, 2, none⟩ = some (.int .u8 cd) := by rw [b11.cell z10]; exact y10.2.2.1
      have c53 : w11.cell? ⟨w8.heap.size, 3, none⟩ = some (.int .u8 co) := by rw [b11.cell z10]; exact y10.2.2.2
      clear b11 HL1 r10 bw10 y10
      have HW : Hid (∀ W, Calls Try.prog 17 #[.agg #[.int .i64 ck, .int .i64 ca, .int .u8 cd, .int .u8 co]] W fun e w' => e = .returned (.bool (decide (2 ≤ ck) && decide (ck ≤ 6))) ∧ Below W.heap.size W w') := fun W => qworks_any ck ca cd co W
      go_wp2_with fail
      refine Calls.mono (HW.out _) ?_
      rintro e w12 ⟨rfl, b12⟩
      have r12 := hB.kept r11 (S := fun _ => False) (Kept.below b12) (fun _ _ x => x)
      have bw12 := bw11.trans (b12.mono bw11.size)
      clear b12 HW r11 bw11 c50 c51 c52 c53
      obtain ⟨P0, eP0⟩ : ∃ x, x = bankS st1.b0 := ⟨_, rfl⟩
      obtain ⟨P1, eP1⟩ : ∃ x, x = bankS st1.b1 := ⟨_, rfl⟩
      obtain ⟨Q0, eQ0⟩ : ∃ x, x = bankS T.b0 := ⟨_, rfl⟩
      obtain ⟨Q1, eQ1⟩ : ∃ x, x = bankS T.b1 := ⟨_, rfl⟩
      rw [← eP0, ← eP1, ← eQ0, ← eQ1] at HG
      rw [← eP0, ← eP1, ← eQ0, ← eQ1]
      clear eP0 eP1 eQ0 eQ1
      have fin : ∀ (i : Int), i = j + 1 → (∃ (j_1 : Nat) (l1 : B.Lt) (st1 : St), (j_1 : Int) ≤ 700 * (pn : Int) ∧ Value.int .i64 i = .int .i64 j_1 ∧ Inv st1 ∧ B.g l1 = B.g l ∧ B.rep j_1 l1 st1 w12 ∧ Below w.heap.size w w12 ∧ (∀ k, B.own l1 k → w.heap.size ≤ k)) ∧ 700 * pn + 1 - (intOf (Value.int .i64 i)).toNat < 700 * pn + 1 - (intOf (Value.int .i64 (j : Int))).toNat := fun i e => by
        subst e
        exact ⟨⟨j + 1, l2, T, by omega, by go_num, HX.out, g2, r12, bw12, ho2⟩, by simp [intOf]; omega⟩
      by_cases hw : 2 ≤ ck ∧ ck ≤ 6
      · rw [decide_eq_true hw.1, decide_eq_true hw.2]
        by_cases h0 : P0 = Q0
        · subst h0
          by_cases h1 : P1 = Q1
          · subst h1
            clear HG
            go_wp2
            exact fin _ rfl
          · have hb := (HG.out.2 h1).2
            clear HG
            go_wp2
            all_goals exact fin _ rfl
        · have hb := (HG.out.1 h0).2
          by_cases h1 : P1 = Q1
          · subst h1
            clear HG
            go_wp2
            all_goals exact fin _ rfl
          · have hb2 := (HG.out.2 h1).2
            omega
      · have h0 : P0 = Q0 := Classical.byContradiction fun x => hw (HG.out.1 x).1
        have h1 : P1 = Q1 := Classical.byContradiction fun x => hw (HG.out.2 x).1
        subst h0 h1
        have hwb : (decide (2 ≤ ck) && decide (ck ≤ 6)) = false := by
          rw [Bool.and_eq_false_iff]
          by_cases h2 : 2 ≤ ck
          · exact Or.inr (decide_eq_false (fun x => hw ⟨h2, x⟩))
          · exact Or.inl (decide_eq_false h2)
        rw [hwb]
        clear HG hwb hw
        go_wp2
        exact fin _ rfl

end Go.Proofs.Ytikdbpphbdbdnaa
