/- Comes, walked over any board. -/
import Derived.Test.YtikdbpphbdbdnaaKeep7
import Derived.Test.YtikdbpphbdbdnaaKp
import Derived.Test.YtikdbpphbdbdnaaPairQ
namespace Go.Proofs.Ytikdbpphbdbdnaa
open Go.RowKit
set_option linter.unusedVariables false

/-- The byte of a bank's text. -/
theorem bankS_at (f : Nat → Int) (hf : ∀ i, 0 ≤ f i ∧ f i ≤ 255) (i : Nat) (hi : i < 64) : ((bankS f).data[i]?.map (fun b => (b.toNat : Int))) = some (f i) := by
  have e : (bankS f).data[i]? = some (UInt8.ofNat (f i).toNat) := by
    show (((List.range 64).map fun i => UInt8.ofNat (f i).toNat).toArray)[i]? = _
    simp [hi]
  rw [e]
  have h := hf i
  simp only [Option.map_some, Option.some.injEq]
  rw [UInt8.toNat_ofNat']
  omega

theorem bankS_get (f : Nat → Int) (hf : ∀ i, 0 ≤ f i ∧ f i ≤ 255) (i : Nat) (hi : i < 64) (h : i < (bankS f).size) : ((((bankS f)[i]'h).toNat : Nat) : Int) = f i := by
  have e := bankS_at f hf i hi
  have h' : i < (bankS f).data.size := h
  rw [Array.getElem?_eq_getElem h'] at e
  exact Option.some.inj e

/-- What the walk looks at again: the input and what was told. -/
def Looks (W : World) (b c : Nat) (rs : Bool) (v p k s0 s1 : Int) : Prop := b < W.heap.size ∧ c < W.heap.size ∧ W.cell? ⟨b, 0, none⟩ = some (.bool rs) ∧ W.cell? ⟨b, 1, none⟩ = some (.int .i64 v) ∧ W.cell? ⟨b, 2, none⟩ = some (.int .u8 p) ∧ W.cell? ⟨c, 5, none⟩ = some (.int .i64 k) ∧ W.cell? ⟨c, 6, none⟩ = some (.int .i64 s0) ∧ W.cell? ⟨c, 7, none⟩ = some (.int .i64 s1)

theorem Looks.kept {S : Nat → Prop} {W W' : World} {b c : Nat} {rs : Bool} {v p k s0 s1 : Int} (h : Looks W b c rs v p k s0 s1) (hk : Kept S W W') (hb : ¬ S b) (hc : ¬ S c) : Looks W' b c rs v p k s0 s1 := by
  obtain ⟨h1, h2, h3, h4, h5, h6, h7, h8⟩ := h
  exact ⟨Nat.lt_of_lt_of_le h1 hk.size, Nat.lt_of_lt_of_le h2 hk.size, by rw [hk.cell h1 hb]; exact h3, by rw [hk.cell h1 hb]; exact h4, by rw [hk.cell h1 hb]; exact h5, by rw [hk.cell h2 hc]; exact h6, by rw [hk.cell h2 hc]; exact h7, by rw [hk.cell h2 hc]; exact h8⟩

set_option maxRecDepth 100000 in
set_option maxHeartbeats 2000000 in
theorem comes_walk {B : PB} (hB : PBok B) (hM : PBmore B) (a b : ByteArray) (m n s : Int) (pa : Option Addr) (pn pc : Nat) (w : World) (ha : a.size ≤ maxLen) (hb : b.size ≤ maxLen) (m0 : -9223372036854775808 ≤ m) (m1 : m ≤ 9223372036854775807) (n0 : -9223372036854775808 ≤ n) (n1 : n ≤ 9223372036854775807) (hpn : pn ≤ 8796093022208) (hp : pn = 0 ∨ ∃ b off, pa = some ⟨b, off, none⟩ ∧ IsParts w b off pn) :
    Calls Try.prog 5 #[.string a, .string b, .int .i64 m, .int .i64 n, .int .i64 s, .slice pa pn pc] w fun e w' => e = .returned (.bool true) ∧ Below w.heap.size w w' := by
  have HK : Hid _ := fun w => knows_any hB w
  have HBd : Hid _ := fun w => board_any hB a b m n s w ha hb m0 m1 n0 n1
  clear ha hb m0 m1 n0 n1
  go_enter Try.func5, Try.ntmps5
  go_wp2_with fail
  refine Calls.mono (HK.out _) ?_
  rintro e w1 ⟨rfl, b1⟩
  go_wp2_with fail
  refine Calls.mono (HBd.out _) ?_
  rintro e w2 ⟨l, x, y, rfl, r2, b2, o2⟩
  have lo : ∀ k, B.own l k → w.heap.size ≤ k := fun k hk => Nat.le_trans b1.size (o2 k hk)
  have bw : Below w.heap.size w w2 := b1.trans (b2.mono b1.size)
  have hi0 : Inv (newSt x y) := newSt_inv _ _
  have hc0 : Comes 0 (newSt x y) := ⟨Int.le_refl 0, fun _ => by show (4 : Int) ≤ 0 + 4; omega, fun e => absurd e (by show ¬ (4 : Int) = 0; omega)⟩
  clear HK HBd b1 b2 o2
  have HI0 : Hid (∀ (n : Nat) (l1 : B.Lt) (st : St) (W : World), B.rep n l1 st W → Inv st → B.g l1 = B.g l → Calls Try.prog 19 #[.pointer (some ⟨B.g l, 0, none⟩), .int .i64 0] W fun e w' => e = .returned (.tuple #[.string (bankS st.b0), .int .i64 0]) ∧ Below W.heap.size W w') := fun n l1 st W h1 h2 h3 => by
    have h := hM.image n l1 st W 0 h1 h2
    rw [h3] at h
    exact h
  have HI1 : Hid (∀ (n : Nat) (l1 : B.Lt) (st : St) (W : World), B.rep n l1 st W → Inv st → B.g l1 = B.g l → Calls Try.prog 19 #[.pointer (some ⟨B.g l, 0, none⟩), .int .i64 1] W fun e w' => e = .returned (.tuple #[.string (bankS st.b1), .int .i64 0]) ∧ Below W.heap.size W w') := fun n l1 st W h1 h2 h3 => by
    have h := hM.image n l1 st W 1 h1 h2
    rw [h3] at h
    exact h
  go_wp2
  go_loopw [15, 16] (fun t14 t15 wx => ∃ (j : Nat) (h : Int) (l1 : B.Lt) (st1 : St), (j : Int) ≤ 700 * (pn : Int) ∧ t15 = .int .i64 j ∧ t14 = .int .i64 h ∧ h ≤ j ∧ Comes h st1 ∧ (j = 0 → st1.left = 4) ∧ Inv st1 ∧ B.g l1 = B.g l ∧ B.rep j l1 st1 wx ∧ Below w.heap.size w wx ∧ (∀ k, B.own l1 k → w.heap.size ≤ k)) (fun _ t15 _ => 700 * pn + 1 - (intOf t15).toNat)
  case atStart => exact ⟨0, 0, l, _, by omega, rfl, rfl, by omega, hc0, fun _ => rfl, hi0, rfl, r2, bw, lo⟩
  case round =>
    obtain ⟨j, h, l1, st1, hj, rfl, rfl, hhj, hcm, hj0, hi, hg, hr, hbw, ho⟩ := hrel
    clear r2 bw hi0 lo hc0
    have HA : Hid _ := qat_any pa pn pc j wr (by unfold maxLen; omega) (by omega) (by omega) (by
      rcases hp with hp | ⟨b, off, e, hb, hp⟩
      · exact Or.inl hp
      · refine Or.inr ⟨b, off, e, Nat.lt_of_lt_of_le hb hbw.size, fun k hk => ?_⟩
        obtain ⟨t, rs, v, p, t0, t1, p0, p1, c0, c1, c2, c3⟩ := hp k hk
        exact ⟨t, rs, v, p, t0, t1, p0, p1, by rw [hbw.cell (by exact hb)]; exact c0, by rw [hbw.cell (by exact hb)]; exact c1, by rw [hbw.cell (by exact hb)]; exact c2, by rw [hbw.cell (by exact hb)]; exact c3⟩)
    clear hp
    go_wp2_with fail
    refine Calls.mono HA.out ?_
    rintro e w3 ⟨rs, v, p, more, rfl, p0, p1, hm, b3⟩
    have bw3 : Below w.heap.size w w3 := hbw.trans (b3.mono hbw.size)
    cases more with
    | false =>
      go_wp2
      go_ret
      exact ⟨rfl, bw3.alloc bw3.size _⟩
    | true =>
      have hj2 := hm rfl
      have r3 : B.rep j l1 st1 w3 := hB.kept hr (S := fun _ => False) (Kept.below b3) (fun _ _ x => x)
      have HC : Hid _ := comes_step hi ⟨rs, v, p⟩ h hcm
      have HX : Hid (Inv (st1.step ⟨rs, v, p⟩).1) := hi.step ⟨rs, v, p⟩ ⟨p0, p1⟩
      have HS : Hid (∀ W, B.rep j l1 st1 W → Calls Try.prog 16 #[.pointer (some ⟨B.g l, 0, none⟩), .agg #[.bool rs, .int .i64 v, .int .u8 p]] W fun e w' => e = .returned (.agg #[.int .i64 (st1.step ⟨rs, v, p⟩).2.kind, .int .i64 (st1.step ⟨rs, v, p⟩).2.addr, .int .u8 (st1.step ⟨rs, v, p⟩).2.data, .int .u8 (st1.step ⟨rs, v, p⟩).2.out]) ∧ ∃ l' : B.Lt, B.g l' = B.g l ∧ B.rep (j + 1) l' (st1.step ⟨rs, v, p⟩).1 w' ∧ Kept (B.own l1) W w' ∧ ∀ k, B.own l' k → B.own l1 k ∨ W.heap.size ≤ k) := fun W hW => by
        have h := hB.step j l1 st1 W rs v p hW (by omega) hi p0 p1
        rw [hg] at h
        exact h
      have HT : Hid (∀ W, B.rep j l1 st1 W → Calls Try.prog 18 #[.pointer (some ⟨B.g l, 0, none⟩)] W fun e w' => e = .returned st1.told ∧ Below W.heap.size W w') := fun W hW => by
        have h := hB.tell j l1 st1 W hW hi
        rw [hg] at h
        exact h.mono fun e w' ⟨q1, _, q3⟩ => ⟨q1, q3⟩
      have HJ0 : Hid _ := fun W hW => HI0.out j l1 st1 W hW hi hg
      have HJ1 : Hid _ := fun W hW => HI1.out j l1 st1 W hW hi hg
      have r4 : B.rep j l1 st1 (w3.alloc (.cells #[.bool rs, .int .i64 v, .int .u8 p] 37)) := hB.kept r3 (S := fun _ => False) ((Kept.refl _ w3).alloc _) (fun _ _ x => x)
      have bw4 : Below w.heap.size w (w3.alloc (.cells #[.bool rs, .int .i64 v, .int .u8 p] 37)) := bw3.alloc bw3.size _
      have hlt3 : ∀ k, B.own l1 k → k < w3.heap.size := fun k hk => hB.lt r3 hk
      have hib := hi.bank
      have hb0 := hi.b0
      have hb1 := hi.b1
      have HI : Hid _ := hi
      clear hm HA b3 hr hi r3
      go_wp2_with fail
      refine Calls.mono (HT.out _ r4) ?_
      rintro e w5 ⟨rfl, b5⟩
      have r5 := hB.kept r4 (S := fun _ => False) (Kept.below b5) (fun _ _ x => x)
      have bw5 := bw4.trans (b5.mono bw4.size)
      have z5 : w3.heap.size < w5.heap.size := by have := b5.size; rw [World.size_alloc] at this; omega
      have y5 : w5.cell? ⟨w3.heap.size, 0, none⟩ = some (.bool rs) ∧ w5.cell? ⟨w3.heap.size, 1, none⟩ = some (.int .i64 v) ∧ w5.cell? ⟨w3.heap.size, 2, none⟩ = some (.int .u8 p) := by
        refine ⟨?_, ?_, ?_⟩ <;> (rw [b5.cell (by rw [World.size_alloc]; exact Nat.lt_succ_self _)]; simp [go_sem])
      clear b5 HT r4 bw4
      unfold St.told
      obtain ⟨w6, hw6⟩ : ∃ w6, w6 = w5.alloc (.cells #[.int .i64 st1.a, .int .i64 st1.x, .int .i64 st1.pc, .bool st1.zero, .bool st1.carry, .int .i64 st1.bank, .int .i64 st1.s0, .int .i64 st1.s1, .int .i64 st1.cause, .int .i64 st1.age, .int .i64 st1.count, .bool st1.flag] 46) := ⟨_, rfl⟩
      have L6 : Looks w6 w3.heap.size w5.heap.size rs v p st1.bank st1.s0 st1.s1 := by
        rw [hw6]
        obtain ⟨q1, q2, q3⟩ := y5
        refine ⟨by rw [World.size_alloc]; omega, by rw [World.size_alloc]; omega, ?_, ?_, ?_, ?_, ?_, ?_⟩
        · rw [World.cell?_alloc_past _ _ _ z5]; exact q1
        · rw [World.cell?_alloc_past _ _ _ z5]; exact q2
        · rw [World.cell?_alloc_past _ _ _ z5]; exact q3
        all_goals simp [go_sem]
      have r6 : B.rep j l1 st1 w6 := by rw [hw6]; exact hB.kept r5 (S := fun _ => False) ((Kept.refl _ w5).alloc _) (fun _ _ x => x)
      have bw6 : Below w.heap.size w w6 := by rw [hw6]; exact bw5.alloc bw5.size _
      have hz35 : w3.heap.size < w5.heap.size := z5
      go_wp2_with fail
      rw [← hw6]
      refine Calls.mono (HJ0.out _ r6) ?_
      rintro e w7 ⟨rfl, b7⟩
      have r7 := hB.kept r6 (S := fun _ => False) (Kept.below b7) (fun _ _ x => x)
      have bw7 := bw6.trans (b7.mono bw6.size)
      have L7 := L6.kept (S := fun _ => False) (Kept.below b7) (fun x => x) (fun x => x)
      clear b7 HJ0 r6 bw6 L6 hw6 r5 bw5 y5 z5
      go_wp2_with fail
      refine Calls.mono (HJ1.out _ r7) ?_
      rintro e w8 ⟨rfl, b8⟩
      have r8 := hB.kept r7 (S := fun _ => False) (Kept.below b8) (fun _ _ x => x)
      have bw8 := bw7.trans (b8.mono bw7.size)
      have L8 := L7.kept (S := fun _ => False) (Kept.below b8) (fun x => x) (fun x => x)
      clear b8 HJ1 r7 bw7 L7
      have L8' := L8
      obtain ⟨i1, i2, i3, i4, i5, i6, i7, i8⟩ := L8'
      go_wp2_with fail
      refine Calls.mono (HS.out _ r8) ?_
      rintro e w9 ⟨rfl, l2, g2, r9, k9, o9⟩
      have bw9 : Below w.heap.size w w9 := bw8.trans ⟨k9.os, k9.tape, k9.output, k9.size, fun k hk => k9.block k (by have := bw8.size; omega) (fun h => by have := ho k h; omega)⟩
      have ho2 : ∀ k, B.own l2 k → w.heap.size ≤ k := fun k hk => by
        rcases o9 k hk with y | y
        · exact ho k y
        · have := bw8.size; omega
      have L9 := L8.kept k9 (fun x => by have := hlt3 _ x; omega) (fun x => by have := hlt3 _ x; omega)
      clear i1 i2 i3 i4 i5 i6 i7 i8 L8 r8 bw8 k9 o9 HS hlt3
      have HRd : Hid (st1.bank = 0 → st1.read 130 = st1.b0 2) := fun e => by unfold St.read St.inBank; rw [if_neg (by omega), if_pos (by omega), if_pos e]; rfl
      have HRe : Hid (st1.bank = 1 → st1.read 130 = st1.b1 2) := fun e => by unfold St.read St.inBank; rw [if_neg (by omega), if_pos (by omega), if_neg (by omega)]; rfl
      generalize st1.step ⟨rs, v, p⟩ = R at HC HX r9 ⊢
      obtain ⟨T, ck, ca, cd, co⟩ := R
      have r10 : B.rep (j + 1) l2 T (w9.alloc (.cells #[.int .i64 ck, .int .i64 ca, .int .u8 cd, .int .u8 co] 41)) := hB.kept r9 (S := fun _ => False) ((Kept.refl _ w9).alloc _) (fun _ _ x => x)
      have bw10 : Below w.heap.size w (w9.alloc (.cells #[.int .i64 ck, .int .i64 ca, .int .u8 cd, .int .u8 co] 41)) := bw9.alloc bw9.size _
      obtain ⟨i1, i2, i3, i4, i5, i6, i7, i8⟩ := L9
      clear r9 bw9
      have hP0 : (bankS st1.b0).size = 64 := bankS_len _
      have hP1 : (bankS st1.b1).size = 64 := bankS_len _
      obtain ⟨HC1, HC2, HC3⟩ := HC.out
      have hlo := hcm.lo
      have fin : ∀ (W : World) (i h2 : Int), i = j + 1 → h2 ≤ j + 1 → Comes h2 T → B.rep (j + 1) l2 T W → Below w.heap.size w W → (∃ (j_1 : Nat) (h : Int) (l1 : B.Lt) (st1 : St), (j_1 : Int) ≤ 700 * (pn : Int) ∧ Value.int .i64 i = .int .i64 j_1 ∧ Value.int .i64 h2 = .int .i64 h ∧ h ≤ j_1 ∧ Comes h st1 ∧ (j_1 = 0 → st1.left = 4) ∧ Inv st1 ∧ B.g l1 = B.g l ∧ B.rep j_1 l1 st1 W ∧ Below w.heap.size w W ∧ (∀ k, B.own l1 k → w.heap.size ≤ k)) ∧ 700 * pn + 1 - (intOf (Value.int .i64 i)).toNat < 700 * pn + 1 - (intOf (Value.int .i64 (j : Int))).toNat := fun W i h2 e q1 q2 q3 q4 => by
        subst e
        exact ⟨⟨j + 1, h2, l2, T, by omega, by go_num, rfl, by omega, q2, fun x => by omega, HX.out, g2, q3, q4, ho2⟩, by simp [intOf]; omega⟩
      by_cases hk0 : ck = 0
      · subst hk0
        have hN : Comes (h + 1) T := by
          have e : heldN h ⟨0, ca, cd, co⟩ = h + 1 := rfl
          rw [e] at HC1
          exact HC1
        clear HC HC1 HC2 HC3
        by_cases hv : v < 2700
        · go_wp2
          all_goals exact fin _ _ _ rfl (by omega) hN r10 bw10
        · cases rs with
          | false =>
            go_wp2
            all_goals exact fin _ _ _ rfl (by omega) hN r10 bw10
          | true =>
            go_wp2
            all_goals exact fin _ _ _ rfl (by omega) hN r10 bw10
      · have hnv : ¬ v < 2700 := fun x => hk0 (HC2 (Or.inl x))
        have hnr : rs = false := by
          cases rs with
          | false => rfl
          | true => exact absurd (HC2 (Or.inr rfl)) hk0
        subst hnr
        obtain ⟨hl0, hdead, hup⟩ := HC3 hk0
        have hN : Comes 0 T := by
          have e : heldN h ⟨ck, ca, cd, co⟩ = 0 := if_neg hk0
          rw [e] at HC1
          exact HC1
        have hjp : ¬ (j : Int) = 0 := fun x => by have := hj0 (by omega); omega
        clear HC HC1 HC2 HC3
        by_cases hh : h = 0
        · subst hh
          by_cases hbk : st1.bank < 0
          · have hd1 : ck = 1 := hdead.2 hbk
            subst hd1
            clear hup hdead
            go_wp2
            all_goals exact fin _ _ _ rfl (by omega) hN r10 bw10
          · have hd1 : ¬ ck = 1 := fun x => hbk (hdead.1 x)
            have hd2 : (ck == 1) = false := beq_eq_false_iff_ne.2 hd1
            have hbk2 : decide (st1.bank < 0) = false := decide_eq_false hbk
            clear hup hdead
            go_wp2
            all_goals exact fin _ _ _ rfl (by omega) hN r10 bw10
        · obtain ⟨h4, ⟨hbo, _, _⟩, hfe⟩ := hup (by omega)
          have HCh : Hid (∀ W, Calls Try.prog 13 #[.string (bankS st1.b0), .string (bankS st1.b1), .agg #[.int .i64 st1.s0, .int .i64 st1.s1]] W fun e w' => e = .returned (.int .i64 st1.bank) ∧ Below W.heap.size W w') := fun W => by
            have q := nChoose_any (bankS st1.b0) (bankS st1.b1) st1.s0 st1.s1 W (by rw [bankS_len]; decide) (by rw [bankS_len]; decide)
            rw [← hbo] at q
            exact q
          clear hup
          have L10 := Looks.kept (⟨i1, i2, i3, i4, i5, i6, i7, i8⟩ : Looks w9 w3.heap.size w5.heap.size false v p st1.bank st1.s0 st1.s1) (S := fun _ => False) ((Kept.refl _ w9).alloc (.cells #[.int .i64 ck, .int .i64 ca, .int .u8 cd, .int .u8 co] 41)) (fun x => x) (fun x => x)
          go_wp2_with fail
          refine Calls.mono (HCh.out _) ?_
          rintro e w11 ⟨rfl, b11⟩
          have r11 := hB.kept r10 (S := fun _ => False) (Kept.below b11) (fun _ _ x => x)
          have bw11 := bw10.trans (b11.mono bw10.size)
          have L11 := L10.kept (S := fun _ => False) (Kept.below b11) (fun x => x) (fun x => x)
          have c110 : w11.cell? ⟨w9.heap.size, 0, none⟩ = some (.int .i64 ck) := by rw [b11.cell (by rw [World.size_alloc]; exact Nat.lt_succ_self _)]; simp [go_sem]
          have c111 : w11.cell? ⟨w9.heap.size, 1, none⟩ = some (.int .i64 ca) := by rw [b11.cell (by rw [World.size_alloc]; exact Nat.lt_succ_self _)]; simp [go_sem]
          have c112 : w11.cell? ⟨w9.heap.size, 2, none⟩ = some (.int .u8 cd) := by rw [b11.cell (by rw [World.size_alloc]; exact Nat.lt_succ_self _)]; simp [go_sem]
          clear i1 i2 i3 i4 i5 i6 i7 i8 L10 b11 HCh r10 bw10
          obtain ⟨i1, i2, i3, i4, i5, i6, i7, i8⟩ := L11
          have hbs0 := bankS_at st1.b0 hb0 2 (by omega)
          have hbs1 := bankS_at st1.b1 hb1 2 (by omega)
          have h40 : ¬ h < 4 := by omega
          by_cases hbk : st1.bank < 0
          · have hd1 : ck = 1 := hdead.2 hbk
            subst hd1
            have hnb : ¬ 0 ≤ st1.bank := by omega
            have hn1 : (st1.bank == 1) = false := beq_eq_false_iff_ne.2 (by omega)
            have hbk2 : decide (st1.bank < 0) = true := decide_eq_true hbk
            have hnb2 : decide (0 ≤ st1.bank) = false := decide_eq_false hnb
            clear hdead hfe hbo
            go_wp2
            go_region
            all_goals
              go_wp2
              exact fin _ _ _ rfl (by omega) hN (hB.kept r11 (S := fun _ => False) ((Kept.refl _ w11).drew) (fun _ _ x => x)) bw11.drew
          · have hnd : ¬ ck = 1 := fun x => hbk (hdead.1 x)
            have f123 := hfe (by omega)
            have f1 : ck = 3 := f123.1
            have f2 : ca = 130 := f123.2.1
            have f3 : cd = st1.read 130 := f123.2.2
            clear f123 hfe
            subst f1 f2
            have d0 : w11.drew.cell? ⟨w9.heap.size, 0, none⟩ = some (.int .i64 3) := c110
            have d1 : w11.drew.cell? ⟨w9.heap.size, 1, none⟩ = some (.int .i64 130) := c111
            have d2 : w11.drew.cell? ⟨w9.heap.size, 2, none⟩ = some (.int .u8 cd) := c112
            have hd2 : ((3 : Int) == 1) = false := rfl
            have hbk2 : decide (st1.bank < 0) = false := decide_eq_false hbk
            have hnb : 0 ≤ st1.bank := by omega
            have hnb2 : decide (0 ≤ st1.bank) = true := decide_eq_true hnb
            clear hdead hbo
            have q20 : 2 < (bankS st1.b0).size := by rw [hP0]; omega
            have q21 : 2 < (bankS st1.b1).size := by rw [hP1]; omega
            have q30 := bankS_get st1.b0 hb0 2 (by omega) q20
            have q31 := bankS_get st1.b1 hb1 2 (by omega) q21
            by_cases h1 : st1.bank = 1
            · have f4 : cd = st1.b1 2 := f3.trans (HRe.out h1)
              clear f3 HRd HRe
              subst f4
              generalize st1.bank = bk at *
              subst h1
              go_wp2
              have hq : (st1.b1 2 != (((bankS st1.b1)[2]'q21).toNat : Int)) = false := by rw [q31]; simp
              go_region
              all_goals
                go_wp2
                exact fin _ _ _ rfl (by omega) hN (hB.kept r11 (S := fun _ => False) ((Kept.refl _ w11).drew) (fun _ _ x => x)) bw11.drew
            · have h0 : st1.bank = 0 := by omega
              have f4 : cd = st1.b0 2 := f3.trans (HRd.out h0)
              clear f3 HRd HRe h1
              subst f4
              generalize st1.bank = bk at *
              subst h0
              go_wp2
              have hq : (st1.b0 2 != (((bankS st1.b0)[2]'q20).toNat : Int)) = false := by rw [q30]; simp
              go_region
              all_goals
                go_wp2
                exact fin _ _ _ rfl (by omega) hN (hB.kept r11 (S := fun _ => False) ((Kept.refl _ w11).drew) (fun _ _ x => x)) bw11.drew

end Go.Proofs.Ytikdbpphbdbdnaa
