/- Alike, walked over any board: Run is Step again and again, wherever it is cut. -/
import Derived.Test.YtikdbpphbdbdnaaKa
import Derived.Test.YtikdbpphbdbdnaaPairQ
import Derived.ChangeKeysEq
import Derived.Deep.RegionHeld3
import Derived.Laws.BitsLemmas
namespace Go.Proofs.Ytikdbpphbdbdnaa
open Go.RowKit
set_option linter.unusedVariables false

theorem St.after_shift (st : St) (ins : Nat → In) (k : Nat) : ∀ j, (st.after ins k).after (fun i => ins (k + i)) j = st.after ins (k + j)
  | 0 => rfl
  | j + 1 => by
    show (((st.after ins k).after (fun i => ins (k + i)) j).step (ins (k + j))).1 = _
    rw [St.after_shift st ins k j]
    rfl

theorem St.cyc_shift (st : St) (ins : Nat → In) (k j : Nat) : (st.after ins k).cyc (fun i => ins (k + i)) j = st.cyc ins (k + j) := by
  unfold St.cyc
  rw [St.after_shift]

theorem cellsOf_intK : Try.prog.cellsOf 3 = 1 := by kernel_rfl
theorem info_intK : (Try.prog.info? 3).isSome = true := by kernel_rfl

/-- Two numbers are the same two numbers. -/
theorem eq_arr2K (x y : Int) (w : World) : (Op.equalIn 9999 22 (.agg #[.int .i64 x, .int .i64 y]) (.agg #[.int .i64 x, .int .i64 y])).run Try.prog w = .ok true w := by
  obtain ⟨i, hi⟩ := Option.isSome_iff_exists.1 info_intK
  have h0 : (Op.equalIn 9998 3 (.int .i64 x) (.int .i64 x)).run Try.prog w = .ok true w := by
    rw [run_equalIn_int w 9997 3 .i64 .i64 x x Try.underlying3]; simp
  have h1 : (Op.equalIn 9998 3 (.int .i64 y) (.int .i64 y)).run Try.prog w = .ok true w := by
    rw [run_equalIn_int w 9997 3 .i64 .i64 y y Try.underlying3]; simp
  rw [show (9999 : Nat) = 9998 + 1 from rfl, run_equalIn_array (P := Try.prog) (w := w) 9998 _ _ Try.underlying22 hi, cellsOf_intK]
  have p0 : (part 3 #[.int .i64 x, .int .i64 y] 0).run Try.prog w = .ok (.int .i64 x) w := by simp [go_sem]
  have p1 : (part 3 #[.int .i64 x, .int .i64 y] 1).run Try.prog w = .ok (.int .i64 y) w := by simp [go_sem]
  simp [Op.eqItems, List.range_succ, h0, h1, p0, p1]

theorem CysAt.at {w : World} {b n : Nat} {c : Nat → Cy} (h : CysAt w b n c) (j : Nat) (hj : j < n) :
    w.cell? ⟨b, j * 4, none⟩ = some (.int .i64 (c j).kind) ∧ w.cell? ⟨b, j * 4 + 1, none⟩ = some (.int .i64 (c j).addr) ∧ w.cell? ⟨b, j * 4 + 2, none⟩ = some (.int .u8 (c j).data) ∧ w.cell? ⟨b, j * 4 + 3, none⟩ = some (.int .u8 (c j).out) := by
  have e : ∀ t, t < 4 → w.cell? ⟨b, j * 4 + t, none⟩ = some (cyCell (c j) t) := fun t ht => by
    have q := (h (j * 4 + t) (by omega)).1
    dsimp only at q
    rw [show (j * 4 + t) / 4 = j by omega, show (j * 4 + t) % 4 = t by omega] at q
    exact q
  exact ⟨e 0 (by omega), e 1 (by omega), e 2 (by omega), e 3 (by omega)⟩

theorem CysAt.kept {S : Nat → Prop} {w w' : World} {b n : Nat} {c : Nat → Cy} (h : CysAt w b n c) (hk : Kept S w w') (hb : b < w.heap.size) (hS : ¬ S b) : CysAt w' b n c := Raw.kept h hk hb hS

set_option maxRecDepth 100000 in
set_option maxHeartbeats 2000000 in
theorem alike_walk {B : PB} (hB : PBok B) (hM : PBmore B) (a b : ByteArray) (pa : Option Addr) (pn pc : Nat) (cut : Int) (ins : Nat → In) (w : World) (ha : a.size ≤ maxLen) (hb : b.size ≤ maxLen) (m0 : -9223372036854775808 ≤ cut) (m1 : cut ≤ 9223372036854775807) (hpn : pn ≤ 5864062014805) (hpc : pn ≤ pc) (hp : pn = 0 ∨ ∃ b off, pa = some ⟨b, off, none⟩ ∧ b < w.heap.size ∧ InsAt w b off pn ins) :
    Calls Try.prog 7 #[.string a, .string b, .slice pa pn pc, .int .i64 cut] w fun e w' => e = .returned (.bool true) ∧ Below w.heap.size w w' := by
  have HK : Hid _ := fun w => knows_any hB w
  have HBd : Hid _ := fun w => board_plain hB a b 1 2 w ha hb (by omega) (by omega) (by omega) (by omega)
  have HP : Hid (∀ w, Calls Try.prog 9 #[.int .i64 cut, .int .i64 ((pn : Int) + 1)] w fun e w' => e = .returned (.int .i64 (pickQ cut ((pn : Int) + 1))) ∧ w' = w) := fun w => qpick_any cut ((pn : Int) + 1) w m0 m1 (by omega) (by omega)
  have hi0 : Inv (newSt (imgQ a 1) (imgQ b 2)) := newSt_inv _ _
  have q0 := pickQ_bounds cut ((pn : Int) + 1) (by omega)
  obtain ⟨K, hK⟩ := Int.eq_ofNat_of_zero_le q0.1
  rw [hK] at HP
  have hKn : K ≤ pn := by omega
  clear hK q0 ha hb m0 m1
  go_enter Try.func7, Try.ntmps7
  go_wp2_with fail
  refine Calls.mono (HK.out _) ?_
  rintro e w1 ⟨rfl, b1⟩
  go_wp2_with fail
  refine Calls.mono (HBd.out _) ?_
  rintro e w2 ⟨l, rfl, r2, b2, o2⟩
  go_wp2_with fail
  refine Calls.mono (HBd.out _) ?_
  rintro e w3 ⟨l', rfl, r3, b3, o3⟩
  have bw3 : Below w.heap.size w w3 := (b1.trans (b2.mono b1.size)).trans (b3.mono (Nat.le_trans b1.size b2.size))
  have lo : ∀ k, B.own l k → w.heap.size ≤ k := fun k hk => Nat.le_trans b1.size (o2 k hk)
  have lo' : ∀ k, B.own l' k → w.heap.size ≤ k := fun k hk => Nat.le_trans (Nat.le_trans b1.size b2.size) (o3 k hk)
  have hap : ∀ k, B.own l k → ¬ B.own l' k := fun k h1 h2 => by have := hB.lt r2 h1; have := o3 k h2; omega
  have r2' : B.rep 0 l (newSt (imgQ a 1) (imgQ b 2)) w3 := hB.kept r2 (S := fun _ => False) (Kept.below b3) (fun _ _ x => x)
  generalize newSt (imgQ a 1) (imgQ b 2) = st at *
  clear HK HBd b1 b2 b3 o2 o3 r2
  have hK0 : (0 : Int) ≤ (K : Int) := by omega
  have hK1 : (K : Int) ≤ (pc : Int) := by omega
  have hK2 : (K : Int) ≤ (pn : Int) := by omega
  have hpc' : (pn : Int) ≤ (pc : Int) := by omega
  go_wp2_with fail
  refine Calls.mono (HP.out _) ?_
  rintro e u1 ⟨rfl, hv⟩
  obtain rfl := hv.symm
  have hp3 : ∀ (W : World) (S : Nat → Prop), Kept S w3 W → (∀ k, S k → w.heap.size ≤ k) → pn = 0 ∨ ∃ b off, pa = some ⟨b, off, none⟩ ∧ b < w.heap.size ∧ InsAt W b off pn ins := fun W S hk hS => by
    rcases hp with hp | ⟨b, off, e, hb, hp⟩
    · exact Or.inl hp
    · exact Or.inr ⟨b, off, e, hb, (hp.kept (S := fun k => w.heap.size ≤ k) ⟨bw3.os, bw3.tape, bw3.output, bw3.size, fun k hk _ => bw3.block k hk⟩ hb (by omega)).kept hk (Nat.lt_of_lt_of_le hb bw3.size) (fun x => by have := hS _ x; omega)⟩
  have HR1 : Hid _ := hM.run 0 l st w3 pa K pc ins r2' (by omega) (by omega) hi0 (by
    rcases hp3 w3 (fun _ => False) (Kept.refl _ _) (fun _ x => x.elim) with h | ⟨b, off, e, hb, h⟩
    · exact Or.inl (by omega)
    · exact Or.inr ⟨b, off, e, Nat.lt_of_lt_of_le hb bw3.size, fun x => by have := lo b x; omega, fun i hi => h i (by omega)⟩)
  have HP0 : Hid _ := hp
  clear hp
  go_wp2_with fail
  refine Calls.mono HR1.out ?_
  rintro e w4 ⟨c1, rfl, c1a, c1b, cy1, l1, g1, r4, k4, o4, n4⟩
  have lo1 : ∀ k, B.own l1 k → w.heap.size ≤ k := fun k hk => by
    rcases o4 k hk with x | x
    · exact lo k x
    · have := bw3.size; omega
  have hap1 : ∀ k, B.own l1 k → ¬ B.own l' k := fun k hk x => by
    rcases o4 k hk with y | y
    · exact hap k y x
    · have := hB.lt r3 x; omega
  have m1 : ¬ B.own l' c1 := fun x => by have := hB.lt r3 x; omega
  have r3' : B.rep 0 l' st w4 := hB.kept r3 k4 (fun k h1 h2 => hap k h2 h1)
  have bw4 : Below w.heap.size w w4 := bw3.trans ⟨k4.os, k4.tape, k4.output, k4.size, fun k hk => k4.block k (by have := bw3.size; omega) (fun h => by have := lo k h; omega)⟩
  have hi1 : Inv (st.after ins K) := St.after_inv hi0 (n := pn) (fun i hi => by
    rcases hp3 w3 (fun _ => False) (Kept.refl _ _) (fun _ x => x.elim) with h | ⟨b, off, e, hb, h⟩
    · omega
    · exact ⟨(h i hi).1, (h i hi).2.1⟩) K hKn
  have hp4 := hp3 w4 (B.own l) k4 lo
  have HR2 : Hid (∀ (a2 : Option Addr) (cap2 : Nat), (pn - K = 0 ∨ a2 = Option.map (fun x => x.add (K * 3)) pa) → Calls Try.prog 20 #[.pointer (some ⟨B.g l, 0, none⟩), .slice a2 (pn - K) cap2] w4 fun e w' => ∃ c, e = .returned (.slice (some ⟨c, 0, none⟩) (pn - K) (pn - K)) ∧ w4.heap.size ≤ c ∧ c < w'.heap.size ∧ CysAt w' c (pn - K) (fun i => st.cyc ins (K + i)) ∧
      ∃ l2 : B.Lt, B.g l2 = B.g l ∧ B.rep pn l2 (st.after ins pn) w' ∧ Kept (B.own l1) w4 w' ∧ (∀ k, B.own l2 k → B.own l1 k ∨ w4.heap.size ≤ k) ∧ ¬ B.own l2 c) := fun a2 cap2 h2 => by
    have h := hM.run (0 + K) l1 (st.after ins K) w4 a2 (pn - K) cap2 (fun i => ins (K + i)) r4 (by omega) (by omega) hi1 (by
      by_cases h0 : pn - K = 0
      · exact Or.inl h0
      · right
        rcases hp4 with hp | ⟨b, off, e, hb, hp⟩
        · omega
        · rcases h2 with h2 | h2
          · exact absurd h2 h0
          · refine ⟨b, off + K * 3, by rw [h2, e]; simp [Addr.add], Nat.lt_of_lt_of_le hb bw4.size, fun x => by have := lo1 b x; omega, fun i hi => ?_⟩
            obtain ⟨q1, q2, q3, q4, q5⟩ := hp (K + i) (by omega)
            rw [show off + (K + i) * 3 = off + K * 3 + i * 3 by omega] at q3 q4 q5
            exact ⟨q1, q2, q3, q4, q5⟩)
    rw [g1] at h
    refine h.mono fun e w' ⟨c, q1, q2, q3, q4, l2, q5, q6, q7, q8, q9⟩ => ⟨c, q1, q2, q3, ?_, l2, q5, ?_, q7, q8, q9⟩
    · have ef : (st.after ins K).cyc (fun i => ins (K + i)) = fun i => st.cyc ins (K + i) := funext fun i => St.cyc_shift st ins K i
      rw [ef] at q4
      exact q4
    · rw [St.after_shift, show K + (pn - K) = pn by omega, show 0 + K + (pn - K) = pn by omega] at q6
      exact q6
  have hd : ((pn - K : Nat) : Int) = (pn : Int) - (K : Int) := by omega
  clear HR1 hp3 r3 r4 k4 o4 r2' HP hi1
  go_wp2_with fail
  all_goals
    obtain ⟨A2, hA2⟩ : ∃ A2, A2 = Option.map (fun x : Addr => x.add (K * 3)) pa := ⟨_, rfl⟩
    try rw [← hA2]
    refine Calls.mono (HR2.out _ _ (by first | (left; omega) | (right; exact hA2))) ?_
    clear hA2
    rintro e w5 ⟨c2, rfl, c2a, c2b, cy2, l2, g2, r5, k5, o5, n5⟩
    have cy1' : CysAt w5 c1 K (st.cyc ins) := cy1.kept k5 c1b n4
    have bw5 : Below w.heap.size w w5 := bw4.trans ⟨k5.os, k5.tape, k5.output, k5.size, fun k hk => k5.block k (by have := bw4.size; omega) (fun h => by have := lo1 k h; omega)⟩
    have r3'' : B.rep 0 l' st w5 := hB.kept r3' k5 (fun k h1 h2 => hap1 k h2 h1)
    have lo2 : ∀ k, B.own l2 k → w.heap.size ≤ k := fun k hk => by
      rcases o5 k hk with x | x
      · exact lo1 k x
      · have := bw4.size; omega
    have hap2 : ∀ k, B.own l2 k → ¬ B.own l' k := fun k hk x => by
      rcases o5 k hk with y | y
      · exact hap1 k y x
      · have := hB.lt r3' x; omega
    have m2 : ¬ B.own l' c2 := fun x => by have := hB.lt r3' x; omega
    clear HR2 hp4 cy1 k5 o5 r3' bw4 lo1 hap1 n4
    go_wp2
    go_loopw [15] (fun i wx => ∃ (j : Nat) (ly : B.Lt), j ≤ pn ∧ i = .int .i64 j ∧ B.g ly = B.g l' ∧ B.rep j ly (st.after ins j) wx ∧ B.rep pn l2 (st.after ins pn) wx ∧ CysAt wx c1 K (st.cyc ins) ∧ CysAt wx c2 (pn - K) (fun i => st.cyc ins (K + i)) ∧ Below w.heap.size w wx ∧ w5.heap.size ≤ wx.heap.size ∧ (∀ k, B.own ly k → B.own l' k ∨ w5.heap.size ≤ k)) (fun i _ => pn - (intOf i).toNat)
    case atStart => exact ⟨0, l', by omega, rfl, rfl, r3'', r5, cy1', cy2, bw5, Nat.le_refl _, fun k hk => Or.inl hk⟩
    case round =>
      obtain ⟨j, ly, hj, rfl, gy, ry, rx, x1, x2, xb, xz, xo⟩ := hrel
      clear r3'' cy1' cy2
      by_cases hjn : j < pn
      · have hjn' : (j : Int) < (pn : Int) := by omega
        rcases HP0.out with hp | ⟨b, off, rfl, hb, hp⟩
        · omega
        obtain ⟨p0, p1, i0, i1, i2⟩ := hp j hjn
        have c1z : c1 < wr.heap.size := by omega
        have c2z : c2 < wr.heap.size := by omega
        have i0' : wr.cell? ⟨b, off + j * 3, none⟩ = some (.bool (ins j).reset) := by rw [xb.cell (p := ⟨b, off + j * 3, none⟩) hb]; exact i0
        have i1' : wr.cell? ⟨b, off + j * 3 + 1, none⟩ = some (.int .i64 (ins j).volts) := by rw [xb.cell (p := ⟨b, off + j * 3 + 1, none⟩) hb]; exact i1
        have i2' : wr.cell? ⟨b, off + j * 3 + 2, none⟩ = some (.int .u8 (ins j).port) := by rw [xb.cell (p := ⟨b, off + j * 3 + 2, none⟩) hb]; exact i2
        have hinv : Inv (st.after ins j) := St.after_inv hi0 (n := pn) (fun i hi => ⟨(hp i hi).1, (hp i hi).2.1⟩) j hj
        have HS : Hid (Calls Try.prog 16 #[.pointer (some ⟨B.g l', 0, none⟩), .agg #[.bool (ins j).reset, .int .i64 (ins j).volts, .int .u8 (ins j).port]] wr fun e w' => e = .returned (.agg #[.int .i64 (st.cyc ins j).kind, .int .i64 (st.cyc ins j).addr, .int .u8 (st.cyc ins j).data, .int .u8 (st.cyc ins j).out]) ∧ ∃ ly' : B.Lt, B.g ly' = B.g l' ∧ B.rep (j + 1) ly' (st.after ins (j + 1)) w' ∧ Kept (B.own ly) wr w' ∧ ∀ k, B.own ly' k → B.own ly k ∨ wr.heap.size ≤ k) := by
          have h := hB.step j ly (st.after ins j) wr (ins j).reset (ins j).volts (ins j).port ry (by omega) hinv p0 p1
          rw [gy] at h
          exact h
        have nl1 : ¬ B.own ly c1 := fun x => by
          rcases xo c1 x with y | y
          · exact m1 y
          · omega
        have nl2 : ¬ B.own ly c2 := fun x => by
          rcases xo c2 x with y | y
          · exact m2 y
          · omega
        have lo9 : ∀ k, B.own ly k → w.heap.size ≤ k := fun k hk => by
          rcases xo k hk with y | y
          · exact lo' k y
          · have := bw5.size; omega
        have hap9 : ∀ k, B.own l2 k → ¬ B.own ly k := fun k hk x => by
          rcases xo k x with y | y
          · exact hap2 k hk y
          · have := hB.lt r5 hk; omega
        clear i0 i1 i2 hp hinv
        go_wp2_with fail
        refine Calls.mono HS.out ?_
        rintro e w6 ⟨rfl, ly', g6, r6, k6, o6⟩
        have z6 : w6.heap.size ≥ wr.heap.size := k6.size
        have y1 : CysAt w6 c1 K (st.cyc ins) := x1.kept k6 c1z nl1
        have y2 : CysAt w6 c2 (pn - K) (fun i => st.cyc ins (K + i)) := x2.kept k6 c2z nl2
        have rx6 : B.rep pn l2 (st.after ins pn) w6 := hB.kept rx k6 hap9
        have b6 : Below w.heap.size w w6 := xb.trans ⟨k6.os, k6.tape, k6.output, k6.size, fun k hk => k6.block k (by have := xb.size; omega) (fun h => by have := lo9 k h; omega)⟩
        have o6' : ∀ k, B.own ly' k → B.own l' k ∨ w5.heap.size ≤ k := fun k hk => by
          rcases o6 k hk with y | y
          · exact xo k y
          · exact Or.inr (by omega)
        have fin : ∀ (W : World) (i : Int), i = j + 1 → Kept (fun _ => False) w6 W → ∃ (j_1 : Nat) (ly : B.Lt), j_1 ≤ pn ∧ Value.int .i64 i = .int .i64 j_1 ∧ B.g ly = B.g l' ∧ B.rep j_1 ly (st.after ins j_1) W ∧ B.rep pn l2 (st.after ins pn) W ∧ CysAt W c1 K (st.cyc ins) ∧ CysAt W c2 (pn - K) (fun i => st.cyc ins (K + i)) ∧ Below w.heap.size w W ∧ w5.heap.size ≤ W.heap.size ∧ (∀ k, B.own ly k → B.own l' k ∨ w5.heap.size ≤ k) := fun W i e hk => by
          subst e
          exact ⟨j + 1, ly', by omega, by go_num, g6, hB.kept r6 hk (fun _ _ x => x), hB.kept rx6 hk (fun _ _ x => x), y1.kept hk (by omega) (fun x => x), y2.kept hk (by omega) (fun x => x), b6.trans ⟨hk.os, hk.tape, hk.output, hk.size, fun k hk2 => hk.block k (by have := b6.size; omega) (fun x => x)⟩, by have := hk.size; omega, o6'⟩
        have c1y : c1 < w6.heap.size := by omega
        have c2y : c2 < w6.heap.size := by omega
        have HF : Hid _ := fin
        have HY1 : Hid _ := y1.at
        have HY2 : Hid _ := y2.at
        clear HS k6 o6 o6' fin y1 y2 x1 x2 rx rx6 ry r6 b6 xb nl1 nl2 lo9 hap9 i0' i1' i2' HP0 xo
        by_cases hjk : j < K
        · have hjk' : (j : Int) < (K : Int) := by omega
          have hjk2 : ¬ (K : Int) ≤ (j : Int) := by omega
          have hdk : decide (K ≤ j) = false := decide_eq_false (by omega)
          obtain ⟨d0, d1, d2, d3⟩ := HY1.out j hjk
          generalize st.cyc ins j = C at d0 d1 d2 d3 ⊢
          obtain ⟨ck, ca, cd, co⟩ := C
          have hS : ∀ W : World, Kept (fun _ => False) (w6.alloc (.cells #[.int .i64 ck, .int .i64 ca, .int .u8 cd, .int .u8 co] 41)) W → W.cell? ⟨w6.heap.size, 0, none⟩ = some (.int .i64 ck) ∧ W.cell? ⟨w6.heap.size, 1, none⟩ = some (.int .i64 ca) ∧ W.cell? ⟨w6.heap.size, 2, none⟩ = some (.int .u8 cd) ∧ W.cell? ⟨w6.heap.size, 3, none⟩ = some (.int .u8 co) ∧ W.cell? ⟨c1, j * 4, none⟩ = some (.int .i64 ck) ∧ W.cell? ⟨c1, j * 4 + 1, none⟩ = some (.int .i64 ca) ∧ W.cell? ⟨c1, j * 4 + 2, none⟩ = some (.int .u8 cd) ∧ W.cell? ⟨c1, j * 4 + 3, none⟩ = some (.int .u8 co) := fun W hW =>
            ⟨by rw [hW.cell (b := w6.heap.size) (by simp) (fun x => x)]; simp [go_sem], by rw [hW.cell (b := w6.heap.size) (by simp) (fun x => x)]; simp [go_sem], by rw [hW.cell (b := w6.heap.size) (by simp) (fun x => x)]; simp [go_sem], by rw [hW.cell (b := w6.heap.size) (by simp) (fun x => x)]; simp [go_sem],
              by rw [hW.cell (b := c1) (by simp; omega) (fun x => x), World.cell?_alloc_past _ _ _ c1y]; exact d0, by rw [hW.cell (b := c1) (by simp; omega) (fun x => x), World.cell?_alloc_past _ _ _ c1y]; exact d1, by rw [hW.cell (b := c1) (by simp; omega) (fun x => x), World.cell?_alloc_past _ _ _ c1y]; exact d2, by rw [hW.cell (b := c1) (by simp; omega) (fun x => x), World.cell?_alloc_past _ _ _ c1y]; exact d3⟩
          have HSx : Hid _ := hS
          clear HY1 HY2 hS d0 d1 d2 d3
          go_wp2_with fail
          refine wp_region_held_drew (S := fun W => W.cell? ⟨w6.heap.size, 0, none⟩ = some (.int .i64 ck) ∧ W.cell? ⟨w6.heap.size, 1, none⟩ = some (.int .i64 ca) ∧ W.cell? ⟨w6.heap.size, 2, none⟩ = some (.int .u8 cd) ∧ W.cell? ⟨w6.heap.size, 3, none⟩ = some (.int .u8 co) ∧ W.cell? ⟨c1, j * 4, none⟩ = some (.int .i64 ck) ∧ W.cell? ⟨c1, j * 4 + 1, none⟩ = some (.int .i64 ca) ∧ W.cell? ⟨c1, j * 4 + 2, none⟩ = some (.int .u8 cd) ∧ W.cell? ⟨c1, j * 4 + 3, none⟩ = some (.int .u8 co)) (by kernel_rfl) (HSx.out _ (Kept.refl _ _).drew) (fun hHeld => ?_)
          refine wpAnyH_take (i := 0) (oi := { dst := some 80, op := Op.move (Operand.tmp 15), type := 3, pos := "keeps.go:252", after := #[], guard := none }) (v := ?_) rfl (by kernel_rfl) (by kernel_rfl) (by kernel_rfl) (fun _ _ _ h => h) (Or.inl ⟨by rfl, ?_⟩) hHeld ?_
          rotate_left
          · (intro w hSw; (try dsimp only at hSw); go_simp; try with_reducible rfl)
          simp only [Act.put, List.setIfInBounds_toArray, List.set_cons_zero, List.set_cons_succ]
          refine wpAnyH_take (i := 1) (oi := { dst := some 81, op := Op.move (Operand.tmp 12), type := 3, pos := "keeps.go:252", after := #[], guard := none }) (v := ?_) rfl (by kernel_rfl) (by kernel_rfl) (by kernel_rfl) (fun _ _ _ h => h) (Or.inl ⟨by rfl, ?_⟩) hHeld ?_
          rotate_left
          · (intro w hSw; (try dsimp only at hSw); go_simp; try with_reducible rfl)
          simp only [Act.put, List.setIfInBounds_toArray, List.set_cons_zero, List.set_cons_succ]
          refine wpAnyH_take (i := 2) (oi := { dst := some 82, op := Op.binOp BinOp.lss 3 (Operand.tmp 80) (Operand.tmp 81) 3, type := 4, pos := "keeps.go:252", after := #[{ on := 0, ground := Ground.data }, { on := 1, ground := Ground.data }], guard := none }) (v := ?_) rfl (by kernel_rfl) (by kernel_rfl) (by kernel_rfl) (fun _ _ _ h => h) (Or.inl ⟨by rfl, ?_⟩) hHeld ?_
          rotate_left
          · (intro w hSw; (try dsimp only at hSw); go_simp; try with_reducible rfl)
          simp only [Act.put, List.setIfInBounds_toArray, List.set_cons_zero, List.set_cons_succ]
          refine wpAnyH_take (i := 3) (oi := { dst := some 83, op := Op.move (Operand.tmp 82), type := 4, pos := "keeps.go:252", after := #[{ on := 2, ground := Ground.data }], guard := none }) (v := ?_) rfl (by kernel_rfl) (by kernel_rfl) (by kernel_rfl) (fun _ _ _ h => h) (Or.inl ⟨by rfl, ?_⟩) hHeld ?_
          rotate_left
          · (intro w hSw; (try dsimp only at hSw); go_simp; try with_reducible rfl)
          simp only [Act.put, List.setIfInBounds_toArray, List.set_cons_zero, List.set_cons_succ]
          refine wpAnyH_take (i := 4) (oi := { dst := some 84, op := Op.load 41 (Operand.tmp 16), type := 41, pos := "keeps.go:252", after := #[{ on := 3, ground := Ground.guard }], guard := some (3, true) }) (v := ?_) rfl (by kernel_rfl) (by kernel_rfl) (by kernel_rfl) (fun _ _ _ h => h) (Or.inl ⟨by rfl, ?_⟩) hHeld ?_
          rotate_left
          · (intro w hSw; (try dsimp only at hSw); go_simp; try with_reducible rfl)
          simp only [Act.put, List.setIfInBounds_toArray, List.set_cons_zero, List.set_cons_succ]
          refine wpAnyH_take (i := 5) (oi := { dst := some 85, op := Op.move (Operand.tmp 13), type := 51, pos := "keeps.go:252", after := #[{ on := 3, ground := Ground.guard }], guard := some (3, true) }) (v := ?_) rfl (by kernel_rfl) (by kernel_rfl) (by kernel_rfl) (fun _ _ _ h => h) (Or.inl ⟨by rfl, ?_⟩) hHeld ?_
          rotate_left
          · (intro w hSw; (try dsimp only at hSw); go_simp; try with_reducible rfl)
          simp only [Act.put, List.setIfInBounds_toArray, List.set_cons_zero, List.set_cons_succ]
          refine wpAnyH_take (i := 6) (oi := { dst := some 86, op := Op.move (Operand.tmp 15), type := 3, pos := "keeps.go:252", after := #[{ on := 3, ground := Ground.guard }], guard := some (3, true) }) (v := ?_) rfl (by kernel_rfl) (by kernel_rfl) (by kernel_rfl) (fun _ _ _ h => h) (Or.inl ⟨by rfl, ?_⟩) hHeld ?_
          rotate_left
          · (intro w hSw; (try dsimp only at hSw); go_simp; try with_reducible rfl)
          simp only [Act.put, List.setIfInBounds_toArray, List.set_cons_zero, List.set_cons_succ]
          refine wpAnyH_take (i := 7) (oi := { dst := some 87, op := Op.indexAddr 51 (Operand.tmp 85) (Operand.tmp 86), type := 0, pos := "keeps.go:252", after := #[{ on := 5, ground := Ground.data }, { on := 6, ground := Ground.data }, { on := 3, ground := Ground.guard }], guard := some (3, true) }) (v := ?_) rfl (by kernel_rfl) (by kernel_rfl) (by kernel_rfl) (fun _ _ _ h => h) (Or.inl ⟨by rfl, ?_⟩) hHeld ?_
          rotate_left
          · (intro w hSw; (try dsimp only at hSw); go_simp; try with_reducible rfl)
          simp only [Act.put, List.setIfInBounds_toArray, List.set_cons_zero, List.set_cons_succ]
          refine wpAnyH_take (i := 8) (oi := { dst := some 88, op := Op.load 41 (Operand.tmp 87), type := 41, pos := "keeps.go:252", after := #[{ on := 7, ground := Ground.data }, { on := 3, ground := Ground.guard }], guard := some (3, true) }) (v := ?_) rfl (by kernel_rfl) (by kernel_rfl) (by kernel_rfl) (fun _ _ _ h => h) (Or.inl ⟨by rfl, ?_⟩) hHeld ?_
          rotate_left
          · (intro w hSw; (try dsimp only at hSw); go_simp; try with_reducible rfl)
          simp only [Act.put, List.setIfInBounds_toArray, List.set_cons_zero, List.set_cons_succ]
          refine wpAnyH_take (i := 9) (oi := { dst := some 89, op := Op.binOp BinOp.neq 41 (Operand.tmp 84) (Operand.tmp 88) 41, type := 4, pos := "keeps.go:252", after := #[{ on := 4, ground := Ground.data }, { on := 8, ground := Ground.data }, { on := 3, ground := Ground.guard }], guard := some (3, true) }) (v := ?_) rfl (by kernel_rfl) (by kernel_rfl) (by kernel_rfl) (fun _ _ _ h => h) (Or.inl ⟨by rfl, ?_⟩) hHeld ?_
          rotate_left
          · (intro w hSw; (try dsimp only at hSw); go_simp; try with_reducible rfl)
          simp only [Act.put, List.setIfInBounds_toArray, List.set_cons_zero, List.set_cons_succ]
          refine wpAnyH_take (i := 10) (oi := { dst := some 90, op := Op.pick (Operand.tmp 83) (Operand.tmp 89) (Operand.const (Value.bool false)), type := 4, pos := "keeps.go:252", after := #[{ on := 3, ground := Ground.data }, { on := 9, ground := Ground.data }], guard := none }) (v := ?_) rfl (by kernel_rfl) (by kernel_rfl) (by kernel_rfl) (fun _ _ _ h => h) (Or.inl ⟨by rfl, ?_⟩) hHeld ?_
          rotate_left
          · (intro w hSw; (try dsimp only at hSw); go_simp; try with_reducible rfl)
          simp only [Act.put, List.setIfInBounds_toArray, List.set_cons_zero, List.set_cons_succ]
          refine wpAnyH_take (i := 11) (oi := { dst := some 91, op := Op.move (Operand.tmp 90), type := 4, pos := "keeps.go:252", after := #[{ on := 10, ground := Ground.data }, { on := 3, ground := Ground.chain }], guard := none }) (v := ?_) rfl (by kernel_rfl) (by kernel_rfl) (by kernel_rfl) (fun _ _ _ h => h) (Or.inl ⟨by rfl, ?_⟩) hHeld ?_
          rotate_left
          · (intro w hSw; (try dsimp only at hSw); go_simp; try with_reducible rfl)
          simp only [Act.put, List.setIfInBounds_toArray, List.set_cons_zero, List.set_cons_succ]
          refine wpAnyH_take (i := 12) (oi := { dst := some 92, op := Op.move (Operand.tmp 15), type := 3, pos := "keeps.go:252", after := #[{ on := 11, ground := Ground.guard }], guard := some (11, false) }) (v := ?_) rfl (by kernel_rfl) (by kernel_rfl) (by kernel_rfl) (fun _ _ _ h => h) (Or.inl ⟨by rfl, ?_⟩) hHeld ?_
          rotate_left
          · (intro w hSw; (try dsimp only at hSw); go_simp; try with_reducible rfl)
          simp only [Act.put, List.setIfInBounds_toArray, List.set_cons_zero, List.set_cons_succ]
          refine wpAnyH_take (i := 13) (oi := { dst := some 93, op := Op.move (Operand.tmp 12), type := 3, pos := "keeps.go:252", after := #[{ on := 11, ground := Ground.guard }], guard := some (11, false) }) (v := ?_) rfl (by kernel_rfl) (by kernel_rfl) (by kernel_rfl) (fun _ _ _ h => h) (Or.inl ⟨by rfl, ?_⟩) hHeld ?_
          rotate_left
          · (intro w hSw; (try dsimp only at hSw); go_simp; try with_reducible rfl)
          simp only [Act.put, List.setIfInBounds_toArray, List.set_cons_zero, List.set_cons_succ]
          refine wpAnyH_take (i := 14) (oi := { dst := some 94, op := Op.binOp BinOp.geq 3 (Operand.tmp 92) (Operand.tmp 93) 3, type := 4, pos := "keeps.go:252", after := #[{ on := 12, ground := Ground.data }, { on := 13, ground := Ground.data }, { on := 11, ground := Ground.guard }], guard := some (11, false) }) (v := ?_) rfl (by kernel_rfl) (by kernel_rfl) (by kernel_rfl) (fun _ _ _ h => h) (Or.inl ⟨by rfl, ?_⟩) hHeld ?_
          rotate_left
          · (intro w hSw; (try dsimp only at hSw); go_simp; try with_reducible rfl)
          simp only [Act.put, List.setIfInBounds_toArray, List.set_cons_zero, List.set_cons_succ]
          refine wpAnyH_take (i := 15) (oi := { dst := some 95, op := Op.move (Operand.tmp 94), type := 4, pos := "keeps.go:252", after := #[{ on := 14, ground := Ground.data }, { on := 11, ground := Ground.chain }, { on := 11, ground := Ground.guard }], guard := some (11, false) }) (v := ?_) rfl (by kernel_rfl) (by kernel_rfl) (by kernel_rfl) (fun _ _ _ h => h) (Or.inl ⟨by rfl, ?_⟩) hHeld ?_
          rotate_left
          · (intro w hSw; (try dsimp only at hSw); go_simp; try with_reducible rfl)
          simp only [Act.put, List.setIfInBounds_toArray, List.set_cons_zero, List.set_cons_succ]
          refine wpAnyH_take (i := 16) (oi := { dst := some 96, op := Op.load 41 (Operand.tmp 16), type := 41, pos := "keeps.go:252", after := #[{ on := 15, ground := Ground.guard }], guard := some (15, true) }) (v := undef) rfl (by kernel_rfl) (by kernel_rfl) (by kernel_rfl) (fun _ _ _ h => h) (Or.inr ⟨by rfl, rfl⟩) hHeld ?_
          simp only [Act.put, List.setIfInBounds_toArray, List.set_cons_zero, List.set_cons_succ]
          refine wpAnyH_take (i := 17) (oi := { dst := some 97, op := Op.move (Operand.tmp 14), type := 51, pos := "keeps.go:252", after := #[{ on := 15, ground := Ground.guard }], guard := some (15, true) }) (v := undef) rfl (by kernel_rfl) (by kernel_rfl) (by kernel_rfl) (fun _ _ _ h => h) (Or.inr ⟨by rfl, rfl⟩) hHeld ?_
          simp only [Act.put, List.setIfInBounds_toArray, List.set_cons_zero, List.set_cons_succ]
          refine wpAnyH_take (i := 18) (oi := { dst := some 98, op := Op.move (Operand.tmp 15), type := 3, pos := "keeps.go:252", after := #[{ on := 15, ground := Ground.guard }], guard := some (15, true) }) (v := undef) rfl (by kernel_rfl) (by kernel_rfl) (by kernel_rfl) (fun _ _ _ h => h) (Or.inr ⟨by rfl, rfl⟩) hHeld ?_
          simp only [Act.put, List.setIfInBounds_toArray, List.set_cons_zero, List.set_cons_succ]
          refine wpAnyH_take (i := 19) (oi := { dst := some 99, op := Op.move (Operand.tmp 12), type := 3, pos := "keeps.go:252", after := #[{ on := 15, ground := Ground.guard }], guard := some (15, true) }) (v := undef) rfl (by kernel_rfl) (by kernel_rfl) (by kernel_rfl) (fun _ _ _ h => h) (Or.inr ⟨by rfl, rfl⟩) hHeld ?_
          simp only [Act.put, List.setIfInBounds_toArray, List.set_cons_zero, List.set_cons_succ]
          refine wpAnyH_take (i := 20) (oi := { dst := some 100, op := Op.binOp BinOp.sub 3 (Operand.tmp 98) (Operand.tmp 99) 3, type := 3, pos := "keeps.go:252", after := #[{ on := 18, ground := Ground.data }, { on := 19, ground := Ground.data }, { on := 15, ground := Ground.guard }], guard := some (15, true) }) (v := undef) rfl (by kernel_rfl) (by kernel_rfl) (by kernel_rfl) (fun _ _ _ h => h) (Or.inr ⟨by rfl, rfl⟩) hHeld ?_
          simp only [Act.put, List.setIfInBounds_toArray, List.set_cons_zero, List.set_cons_succ]
          refine wpAnyH_take (i := 21) (oi := { dst := some 101, op := Op.indexAddr 51 (Operand.tmp 97) (Operand.tmp 100), type := 0, pos := "keeps.go:252", after := #[{ on := 17, ground := Ground.data }, { on := 20, ground := Ground.data }, { on := 15, ground := Ground.guard }], guard := some (15, true) }) (v := undef) rfl (by kernel_rfl) (by kernel_rfl) (by kernel_rfl) (fun _ _ _ h => h) (Or.inr ⟨by rfl, rfl⟩) hHeld ?_
          simp only [Act.put, List.setIfInBounds_toArray, List.set_cons_zero, List.set_cons_succ]
          refine wpAnyH_take (i := 22) (oi := { dst := some 102, op := Op.load 41 (Operand.tmp 101), type := 41, pos := "keeps.go:252", after := #[{ on := 21, ground := Ground.data }, { on := 15, ground := Ground.guard }], guard := some (15, true) }) (v := undef) rfl (by kernel_rfl) (by kernel_rfl) (by kernel_rfl) (fun _ _ _ h => h) (Or.inr ⟨by rfl, rfl⟩) hHeld ?_
          simp only [Act.put, List.setIfInBounds_toArray, List.set_cons_zero, List.set_cons_succ]
          refine wpAnyH_take (i := 23) (oi := { dst := some 103, op := Op.binOp BinOp.neq 41 (Operand.tmp 96) (Operand.tmp 102) 41, type := 4, pos := "keeps.go:252", after := #[{ on := 16, ground := Ground.data }, { on := 22, ground := Ground.data }, { on := 15, ground := Ground.guard }], guard := some (15, true) }) (v := undef) rfl (by kernel_rfl) (by kernel_rfl) (by kernel_rfl) (fun _ _ _ h => h) (Or.inr ⟨by rfl, rfl⟩) hHeld ?_
          simp only [Act.put, List.setIfInBounds_toArray, List.set_cons_zero, List.set_cons_succ]
          refine wpAnyH_take (i := 24) (oi := { dst := some 104, op := Op.pick (Operand.tmp 95) (Operand.tmp 103) (Operand.const (Value.bool false)), type := 4, pos := "keeps.go:252", after := #[{ on := 15, ground := Ground.data }, { on := 23, ground := Ground.data }, { on := 11, ground := Ground.guard }], guard := some (11, false) }) (v := ?_) rfl (by kernel_rfl) (by kernel_rfl) (by kernel_rfl) (fun _ _ _ h => h) (Or.inl ⟨by rfl, ?_⟩) hHeld ?_
          rotate_left
          · (intro w hSw; (try dsimp only at hSw); go_simp; try with_reducible rfl)
          simp only [Act.put, List.setIfInBounds_toArray, List.set_cons_zero, List.set_cons_succ]
          refine wpAnyH_take (i := 25) (oi := { dst := some 105, op := Op.pick (Operand.tmp 91) (Operand.const (Value.bool true)) (Operand.tmp 104), type := 4, pos := "keeps.go:252", after := #[{ on := 11, ground := Ground.data }, { on := 24, ground := Ground.data }], guard := none }) (v := ?_) rfl (by kernel_rfl) (by kernel_rfl) (by kernel_rfl) (fun _ _ _ h => h) (Or.inl ⟨by rfl, ?_⟩) hHeld ?_
          rotate_left
          · (intro w hSw; (try dsimp only at hSw); go_simp; try with_reducible rfl)
          simp only [Act.put, List.setIfInBounds_toArray, List.set_cons_zero, List.set_cons_succ]
          refine wpAnyH_done (by kernel_rfl) ?_ _
          all_goals
            go_wp2
            go_roundw
            case rel =>
              refine HF.out _ _ rfl ?_
              (repeat (with_reducible first | apply Kept.alloc | apply Kept.drewN | apply Kept.drew | exact Kept.refl _ _))
            case measure => simp [intOf]; omega
        · by_cases hx : pn ≤ K
          all_goals try (exfalso; omega)
          all_goals
            have hjk' : ¬ (j : Int) < (K : Int) := by omega
            have hjk2 : (K : Int) ≤ (j : Int) := by omega
            have hdk : decide (j < K) = false := decide_eq_false (by omega)
            have hdl : decide (K ≤ j) = true := decide_eq_true (by omega)
            have hjk3 : (j : Int) - (K : Int) < ((pn - K : Nat) : Int) := by omega
            have hjk4 : (0 : Int) ≤ (j : Int) - (K : Int) := by omega
            have hjk5 : ((j : Int) - (K : Int)).toNat = j - K := by omega
            have hjk6 : IntKind.i64.wrap ((j : Int) - (K : Int)) = (j : Int) - (K : Int) := by rw [IntKind.wrap_i64]; omega
            obtain ⟨d0, d1, d2, d3⟩ := HY2.out (j - K) (by omega)
            try dsimp only at d0 d1 d2 d3
            rw [show K + (j - K) = j by omega] at d0 d1 d2 d3
            generalize st.cyc ins j = C at d0 d1 d2 d3 ⊢
            obtain ⟨ck, ca, cd, co⟩ := C
            have hS : ∀ W : World, Kept (fun _ => False) (w6.alloc (.cells #[.int .i64 ck, .int .i64 ca, .int .u8 cd, .int .u8 co] 41)) W → W.cell? ⟨w6.heap.size, 0, none⟩ = some (.int .i64 ck) ∧ W.cell? ⟨w6.heap.size, 1, none⟩ = some (.int .i64 ca) ∧ W.cell? ⟨w6.heap.size, 2, none⟩ = some (.int .u8 cd) ∧ W.cell? ⟨w6.heap.size, 3, none⟩ = some (.int .u8 co) ∧ W.cell? ⟨c2, (j - K) * 4, none⟩ = some (.int .i64 ck) ∧ W.cell? ⟨c2, (j - K) * 4 + 1, none⟩ = some (.int .i64 ca) ∧ W.cell? ⟨c2, (j - K) * 4 + 2, none⟩ = some (.int .u8 cd) ∧ W.cell? ⟨c2, (j - K) * 4 + 3, none⟩ = some (.int .u8 co) := fun W hW =>
              ⟨by rw [hW.cell (b := w6.heap.size) (by simp) (fun x => x)]; simp [go_sem], by rw [hW.cell (b := w6.heap.size) (by simp) (fun x => x)]; simp [go_sem], by rw [hW.cell (b := w6.heap.size) (by simp) (fun x => x)]; simp [go_sem], by rw [hW.cell (b := w6.heap.size) (by simp) (fun x => x)]; simp [go_sem],
                by rw [hW.cell (b := c2) (by simp; omega) (fun x => x), World.cell?_alloc_past _ _ _ c2y]; exact d0, by rw [hW.cell (b := c2) (by simp; omega) (fun x => x), World.cell?_alloc_past _ _ _ c2y]; exact d1, by rw [hW.cell (b := c2) (by simp; omega) (fun x => x), World.cell?_alloc_past _ _ _ c2y]; exact d2, by rw [hW.cell (b := c2) (by simp; omega) (fun x => x), World.cell?_alloc_past _ _ _ c2y]; exact d3⟩
            have HSx : Hid _ := hS
            clear HY1 HY2 hS d0 d1 d2 d3
            go_wp2_with fail
            refine wp_region_held_drew (S := fun W => W.cell? ⟨w6.heap.size, 0, none⟩ = some (.int .i64 ck) ∧ W.cell? ⟨w6.heap.size, 1, none⟩ = some (.int .i64 ca) ∧ W.cell? ⟨w6.heap.size, 2, none⟩ = some (.int .u8 cd) ∧ W.cell? ⟨w6.heap.size, 3, none⟩ = some (.int .u8 co) ∧ W.cell? ⟨c2, (j - K) * 4, none⟩ = some (.int .i64 ck) ∧ W.cell? ⟨c2, (j - K) * 4 + 1, none⟩ = some (.int .i64 ca) ∧ W.cell? ⟨c2, (j - K) * 4 + 2, none⟩ = some (.int .u8 cd) ∧ W.cell? ⟨c2, (j - K) * 4 + 3, none⟩ = some (.int .u8 co)) (by kernel_rfl) (HSx.out _ (Kept.refl _ _).drew) (fun hHeld => ?_)
            refine wpAnyH_take (i := 0) (oi := { dst := some 80, op := Op.move (Operand.tmp 15), type := 3, pos := "keeps.go:252", after := #[], guard := none }) (v := ?_) rfl (by kernel_rfl) (by kernel_rfl) (by kernel_rfl) (fun _ _ _ h => h) (Or.inl ⟨by rfl, ?_⟩) hHeld ?_
            rotate_left
            · (intro w hSw; (try dsimp only at hSw); go_simp; try with_reducible rfl)
            simp only [Act.put, List.setIfInBounds_toArray, List.set_cons_zero, List.set_cons_succ]
            refine wpAnyH_take (i := 1) (oi := { dst := some 81, op := Op.move (Operand.tmp 12), type := 3, pos := "keeps.go:252", after := #[], guard := none }) (v := ?_) rfl (by kernel_rfl) (by kernel_rfl) (by kernel_rfl) (fun _ _ _ h => h) (Or.inl ⟨by rfl, ?_⟩) hHeld ?_
            rotate_left
            · (intro w hSw; (try dsimp only at hSw); go_simp; try with_reducible rfl)
            simp only [Act.put, List.setIfInBounds_toArray, List.set_cons_zero, List.set_cons_succ]
            refine wpAnyH_take (i := 2) (oi := { dst := some 82, op := Op.binOp BinOp.lss 3 (Operand.tmp 80) (Operand.tmp 81) 3, type := 4, pos := "keeps.go:252", after := #[{ on := 0, ground := Ground.data }, { on := 1, ground := Ground.data }], guard := none }) (v := ?_) rfl (by kernel_rfl) (by kernel_rfl) (by kernel_rfl) (fun _ _ _ h => h) (Or.inl ⟨by rfl, ?_⟩) hHeld ?_
            rotate_left
            · (intro w hSw; (try dsimp only at hSw); go_simp; try with_reducible rfl)
            simp only [Act.put, List.setIfInBounds_toArray, List.set_cons_zero, List.set_cons_succ]
            refine wpAnyH_take (i := 3) (oi := { dst := some 83, op := Op.move (Operand.tmp 82), type := 4, pos := "keeps.go:252", after := #[{ on := 2, ground := Ground.data }], guard := none }) (v := ?_) rfl (by kernel_rfl) (by kernel_rfl) (by kernel_rfl) (fun _ _ _ h => h) (Or.inl ⟨by rfl, ?_⟩) hHeld ?_
            rotate_left
            · (intro w hSw; (try dsimp only at hSw); go_simp; try with_reducible rfl)
            simp only [Act.put, List.setIfInBounds_toArray, List.set_cons_zero, List.set_cons_succ]
            refine wpAnyH_take (i := 4) (oi := { dst := some 84, op := Op.load 41 (Operand.tmp 16), type := 41, pos := "keeps.go:252", after := #[{ on := 3, ground := Ground.guard }], guard := some (3, true) }) (v := undef) rfl (by kernel_rfl) (by kernel_rfl) (by kernel_rfl) (fun _ _ _ h => h) (Or.inr ⟨by rfl, rfl⟩) hHeld ?_
            simp only [Act.put, List.setIfInBounds_toArray, List.set_cons_zero, List.set_cons_succ]
            refine wpAnyH_take (i := 5) (oi := { dst := some 85, op := Op.move (Operand.tmp 13), type := 51, pos := "keeps.go:252", after := #[{ on := 3, ground := Ground.guard }], guard := some (3, true) }) (v := undef) rfl (by kernel_rfl) (by kernel_rfl) (by kernel_rfl) (fun _ _ _ h => h) (Or.inr ⟨by rfl, rfl⟩) hHeld ?_
            simp only [Act.put, List.setIfInBounds_toArray, List.set_cons_zero, List.set_cons_succ]
            refine wpAnyH_take (i := 6) (oi := { dst := some 86, op := Op.move (Operand.tmp 15), type := 3, pos := "keeps.go:252", after := #[{ on := 3, ground := Ground.guard }], guard := some (3, true) }) (v := undef) rfl (by kernel_rfl) (by kernel_rfl) (by kernel_rfl) (fun _ _ _ h => h) (Or.inr ⟨by rfl, rfl⟩) hHeld ?_
            simp only [Act.put, List.setIfInBounds_toArray, List.set_cons_zero, List.set_cons_succ]
            refine wpAnyH_take (i := 7) (oi := { dst := some 87, op := Op.indexAddr 51 (Operand.tmp 85) (Operand.tmp 86), type := 0, pos := "keeps.go:252", after := #[{ on := 5, ground := Ground.data }, { on := 6, ground := Ground.data }, { on := 3, ground := Ground.guard }], guard := some (3, true) }) (v := undef) rfl (by kernel_rfl) (by kernel_rfl) (by kernel_rfl) (fun _ _ _ h => h) (Or.inr ⟨by rfl, rfl⟩) hHeld ?_
            simp only [Act.put, List.setIfInBounds_toArray, List.set_cons_zero, List.set_cons_succ]
            refine wpAnyH_take (i := 8) (oi := { dst := some 88, op := Op.load 41 (Operand.tmp 87), type := 41, pos := "keeps.go:252", after := #[{ on := 7, ground := Ground.data }, { on := 3, ground := Ground.guard }], guard := some (3, true) }) (v := undef) rfl (by kernel_rfl) (by kernel_rfl) (by kernel_rfl) (fun _ _ _ h => h) (Or.inr ⟨by rfl, rfl⟩) hHeld ?_
            simp only [Act.put, List.setIfInBounds_toArray, List.set_cons_zero, List.set_cons_succ]
            refine wpAnyH_take (i := 9) (oi := { dst := some 89, op := Op.binOp BinOp.neq 41 (Operand.tmp 84) (Operand.tmp 88) 41, type := 4, pos := "keeps.go:252", after := #[{ on := 4, ground := Ground.data }, { on := 8, ground := Ground.data }, { on := 3, ground := Ground.guard }], guard := some (3, true) }) (v := undef) rfl (by kernel_rfl) (by kernel_rfl) (by kernel_rfl) (fun _ _ _ h => h) (Or.inr ⟨by rfl, rfl⟩) hHeld ?_
            simp only [Act.put, List.setIfInBounds_toArray, List.set_cons_zero, List.set_cons_succ]
            refine wpAnyH_take (i := 10) (oi := { dst := some 90, op := Op.pick (Operand.tmp 83) (Operand.tmp 89) (Operand.const (Value.bool false)), type := 4, pos := "keeps.go:252", after := #[{ on := 3, ground := Ground.data }, { on := 9, ground := Ground.data }], guard := none }) (v := ?_) rfl (by kernel_rfl) (by kernel_rfl) (by kernel_rfl) (fun _ _ _ h => h) (Or.inl ⟨by rfl, ?_⟩) hHeld ?_
            rotate_left
            · (intro w hSw; (try dsimp only at hSw); go_simp; try with_reducible rfl)
            simp only [Act.put, List.setIfInBounds_toArray, List.set_cons_zero, List.set_cons_succ]
            refine wpAnyH_take (i := 11) (oi := { dst := some 91, op := Op.move (Operand.tmp 90), type := 4, pos := "keeps.go:252", after := #[{ on := 10, ground := Ground.data }, { on := 3, ground := Ground.chain }], guard := none }) (v := ?_) rfl (by kernel_rfl) (by kernel_rfl) (by kernel_rfl) (fun _ _ _ h => h) (Or.inl ⟨by rfl, ?_⟩) hHeld ?_
            rotate_left
            · (intro w hSw; (try dsimp only at hSw); go_simp; try with_reducible rfl)
            simp only [Act.put, List.setIfInBounds_toArray, List.set_cons_zero, List.set_cons_succ]
            refine wpAnyH_take (i := 12) (oi := { dst := some 92, op := Op.move (Operand.tmp 15), type := 3, pos := "keeps.go:252", after := #[{ on := 11, ground := Ground.guard }], guard := some (11, false) }) (v := ?_) rfl (by kernel_rfl) (by kernel_rfl) (by kernel_rfl) (fun _ _ _ h => h) (Or.inl ⟨by rfl, ?_⟩) hHeld ?_
            rotate_left
            · (intro w hSw; (try dsimp only at hSw); go_simp; try with_reducible rfl)
            simp only [Act.put, List.setIfInBounds_toArray, List.set_cons_zero, List.set_cons_succ]
            refine wpAnyH_take (i := 13) (oi := { dst := some 93, op := Op.move (Operand.tmp 12), type := 3, pos := "keeps.go:252", after := #[{ on := 11, ground := Ground.guard }], guard := some (11, false) }) (v := ?_) rfl (by kernel_rfl) (by kernel_rfl) (by kernel_rfl) (fun _ _ _ h => h) (Or.inl ⟨by rfl, ?_⟩) hHeld ?_
            rotate_left
            · (intro w hSw; (try dsimp only at hSw); go_simp; try with_reducible rfl)
            simp only [Act.put, List.setIfInBounds_toArray, List.set_cons_zero, List.set_cons_succ]
            refine wpAnyH_take (i := 14) (oi := { dst := some 94, op := Op.binOp BinOp.geq 3 (Operand.tmp 92) (Operand.tmp 93) 3, type := 4, pos := "keeps.go:252", after := #[{ on := 12, ground := Ground.data }, { on := 13, ground := Ground.data }, { on := 11, ground := Ground.guard }], guard := some (11, false) }) (v := ?_) rfl (by kernel_rfl) (by kernel_rfl) (by kernel_rfl) (fun _ _ _ h => h) (Or.inl ⟨by rfl, ?_⟩) hHeld ?_
            rotate_left
            · (intro w hSw; (try dsimp only at hSw); go_simp; try with_reducible rfl)
            simp only [Act.put, List.setIfInBounds_toArray, List.set_cons_zero, List.set_cons_succ]
            refine wpAnyH_take (i := 15) (oi := { dst := some 95, op := Op.move (Operand.tmp 94), type := 4, pos := "keeps.go:252", after := #[{ on := 14, ground := Ground.data }, { on := 11, ground := Ground.chain }, { on := 11, ground := Ground.guard }], guard := some (11, false) }) (v := ?_) rfl (by kernel_rfl) (by kernel_rfl) (by kernel_rfl) (fun _ _ _ h => h) (Or.inl ⟨by rfl, ?_⟩) hHeld ?_
            rotate_left
            · (intro w hSw; (try dsimp only at hSw); go_simp; try with_reducible rfl)
            simp only [Act.put, List.setIfInBounds_toArray, List.set_cons_zero, List.set_cons_succ]
            refine wpAnyH_take (i := 16) (oi := { dst := some 96, op := Op.load 41 (Operand.tmp 16), type := 41, pos := "keeps.go:252", after := #[{ on := 15, ground := Ground.guard }], guard := some (15, true) }) (v := ?_) rfl (by kernel_rfl) (by kernel_rfl) (by kernel_rfl) (fun _ _ _ h => h) (Or.inl ⟨by rfl, ?_⟩) hHeld ?_
            rotate_left
            · (intro w hSw; (try dsimp only at hSw); go_simp; try with_reducible rfl)
            simp only [Act.put, List.setIfInBounds_toArray, List.set_cons_zero, List.set_cons_succ]
            refine wpAnyH_take (i := 17) (oi := { dst := some 97, op := Op.move (Operand.tmp 14), type := 51, pos := "keeps.go:252", after := #[{ on := 15, ground := Ground.guard }], guard := some (15, true) }) (v := ?_) rfl (by kernel_rfl) (by kernel_rfl) (by kernel_rfl) (fun _ _ _ h => h) (Or.inl ⟨by rfl, ?_⟩) hHeld ?_
            rotate_left
            · (intro w hSw; (try dsimp only at hSw); go_simp; try with_reducible rfl)
            simp only [Act.put, List.setIfInBounds_toArray, List.set_cons_zero, List.set_cons_succ]
            refine wpAnyH_take (i := 18) (oi := { dst := some 98, op := Op.move (Operand.tmp 15), type := 3, pos := "keeps.go:252", after := #[{ on := 15, ground := Ground.guard }], guard := some (15, true) }) (v := ?_) rfl (by kernel_rfl) (by kernel_rfl) (by kernel_rfl) (fun _ _ _ h => h) (Or.inl ⟨by rfl, ?_⟩) hHeld ?_
            rotate_left
            · (intro w hSw; (try dsimp only at hSw); go_simp; try with_reducible rfl)
            simp only [Act.put, List.setIfInBounds_toArray, List.set_cons_zero, List.set_cons_succ]
            refine wpAnyH_take (i := 19) (oi := { dst := some 99, op := Op.move (Operand.tmp 12), type := 3, pos := "keeps.go:252", after := #[{ on := 15, ground := Ground.guard }], guard := some (15, true) }) (v := ?_) rfl (by kernel_rfl) (by kernel_rfl) (by kernel_rfl) (fun _ _ _ h => h) (Or.inl ⟨by rfl, ?_⟩) hHeld ?_
            rotate_left
            · (intro w hSw; (try dsimp only at hSw); go_simp; try with_reducible rfl)
            simp only [Act.put, List.setIfInBounds_toArray, List.set_cons_zero, List.set_cons_succ]
            refine wpAnyH_take (i := 20) (oi := { dst := some 100, op := Op.binOp BinOp.sub 3 (Operand.tmp 98) (Operand.tmp 99) 3, type := 3, pos := "keeps.go:252", after := #[{ on := 18, ground := Ground.data }, { on := 19, ground := Ground.data }, { on := 15, ground := Ground.guard }], guard := some (15, true) }) (v := ?_) rfl (by kernel_rfl) (by kernel_rfl) (by kernel_rfl) (fun _ _ _ h => h) (Or.inl ⟨by rfl, ?_⟩) hHeld ?_
            rotate_left
            · (intro w hSw; (try dsimp only at hSw); go_simp; try with_reducible rfl)
            simp only [Act.put, List.setIfInBounds_toArray, List.set_cons_zero, List.set_cons_succ]
            refine wpAnyH_take (i := 21) (oi := { dst := some 101, op := Op.indexAddr 51 (Operand.tmp 97) (Operand.tmp 100), type := 0, pos := "keeps.go:252", after := #[{ on := 17, ground := Ground.data }, { on := 20, ground := Ground.data }, { on := 15, ground := Ground.guard }], guard := some (15, true) }) (v := ?_) rfl (by kernel_rfl) (by kernel_rfl) (by kernel_rfl) (fun _ _ _ h => h) (Or.inl ⟨by rfl, ?_⟩) hHeld ?_
            rotate_left
            · (intro w hSw; (try dsimp only at hSw); go_simp; try with_reducible rfl)
            simp only [Act.put, List.setIfInBounds_toArray, List.set_cons_zero, List.set_cons_succ]
            refine wpAnyH_take (i := 22) (oi := { dst := some 102, op := Op.load 41 (Operand.tmp 101), type := 41, pos := "keeps.go:252", after := #[{ on := 21, ground := Ground.data }, { on := 15, ground := Ground.guard }], guard := some (15, true) }) (v := ?_) rfl (by kernel_rfl) (by kernel_rfl) (by kernel_rfl) (fun _ _ _ h => h) (Or.inl ⟨by rfl, ?_⟩) hHeld ?_
            rotate_left
            · (intro w hSw; (try dsimp only at hSw); go_simp; try with_reducible rfl)
            simp only [Act.put, List.setIfInBounds_toArray, List.set_cons_zero, List.set_cons_succ]
            refine wpAnyH_take (i := 23) (oi := { dst := some 103, op := Op.binOp BinOp.neq 41 (Operand.tmp 96) (Operand.tmp 102) 41, type := 4, pos := "keeps.go:252", after := #[{ on := 16, ground := Ground.data }, { on := 22, ground := Ground.data }, { on := 15, ground := Ground.guard }], guard := some (15, true) }) (v := ?_) rfl (by kernel_rfl) (by kernel_rfl) (by kernel_rfl) (fun _ _ _ h => h) (Or.inl ⟨by rfl, ?_⟩) hHeld ?_
            rotate_left
            · (intro w hSw; (try dsimp only at hSw); go_simp; try with_reducible rfl)
            simp only [Act.put, List.setIfInBounds_toArray, List.set_cons_zero, List.set_cons_succ]
            refine wpAnyH_take (i := 24) (oi := { dst := some 104, op := Op.pick (Operand.tmp 95) (Operand.tmp 103) (Operand.const (Value.bool false)), type := 4, pos := "keeps.go:252", after := #[{ on := 15, ground := Ground.data }, { on := 23, ground := Ground.data }, { on := 11, ground := Ground.guard }], guard := some (11, false) }) (v := ?_) rfl (by kernel_rfl) (by kernel_rfl) (by kernel_rfl) (fun _ _ _ h => h) (Or.inl ⟨by rfl, ?_⟩) hHeld ?_
            rotate_left
            · (intro w hSw; (try dsimp only at hSw); go_simp; try with_reducible rfl)
            simp only [Act.put, List.setIfInBounds_toArray, List.set_cons_zero, List.set_cons_succ]
            refine wpAnyH_take (i := 25) (oi := { dst := some 105, op := Op.pick (Operand.tmp 91) (Operand.const (Value.bool true)) (Operand.tmp 104), type := 4, pos := "keeps.go:252", after := #[{ on := 11, ground := Ground.data }, { on := 24, ground := Ground.data }], guard := none }) (v := ?_) rfl (by kernel_rfl) (by kernel_rfl) (by kernel_rfl) (fun _ _ _ h => h) (Or.inl ⟨by rfl, ?_⟩) hHeld ?_
            rotate_left
            · (intro w hSw; (try dsimp only at hSw); go_simp; try with_reducible rfl)
            simp only [Act.put, List.setIfInBounds_toArray, List.set_cons_zero, List.set_cons_succ]
            refine wpAnyH_done (by kernel_rfl) ?_ _
            all_goals
              go_wp2
              go_roundw
              case rel =>
                refine HF.out _ _ rfl ?_
                (repeat (with_reducible first | apply Kept.alloc | apply Kept.drewN | apply Kept.drew | exact Kept.refl _ _))
              case measure => simp [intOf]; omega
      · have hjn' : ¬ (j : Int) < (pn : Int) := by omega
        obtain rfl : j = pn := by omega
        have hinv : Inv (st.after ins j) := St.after_inv hi0 (n := j) (fun i hi => by
          rcases HP0.out with hp | ⟨b, off, e, hb, hp⟩
          · omega
          · exact ⟨(hp i hi).1, (hp i hi).2.1⟩) j (Nat.le_refl _)
        generalize st.after ins j = T at ry rx hinv
        have HT1 : Hid (∀ W, B.rep j l2 T W → Calls Try.prog 18 #[.pointer (some ⟨B.g l, 0, none⟩)] W fun e w' => e = .returned T.told ∧ Below W.heap.size W w') := fun W hW => by
          have h := hB.tell j l2 T W hW hinv
          rw [g2] at h
          exact h.mono fun e w' ⟨q1, _, q3⟩ => ⟨q1, q3⟩
        have HT2 : Hid (∀ W, B.rep j ly T W → Calls Try.prog 18 #[.pointer (some ⟨B.g l', 0, none⟩)] W fun e w' => e = .returned T.told ∧ Below W.heap.size W w') := fun W hW => by
          have h := hB.tell j ly T W hW hinv
          rw [gy] at h
          exact h.mono fun e w' ⟨q1, _, q3⟩ => ⟨q1, q3⟩
        have HI1 : Hid (∀ W, B.rep j l2 T W → Calls Try.prog 19 #[.pointer (some ⟨B.g l, 0, none⟩), .int .i64 0] W fun e w' => e = .returned (.tuple #[.string (imgOf T 0), .int .i64 (imgE 0)]) ∧ Below W.heap.size W w') := fun W hW => by
          have h := hM.image j l2 T W 0 hW hinv
          rw [g2] at h
          exact h
        have HI2 : Hid (∀ W, B.rep j ly T W → Calls Try.prog 19 #[.pointer (some ⟨B.g l', 0, none⟩), .int .i64 0] W fun e w' => e = .returned (.tuple #[.string (imgOf T 0), .int .i64 (imgE 0)]) ∧ Below W.heap.size W w') := fun W hW => by
          have h := hM.image j ly T W 0 hW hinv
          rw [gy] at h
          exact h
        have heq := fun W => eq_arr2K T.s0 T.s1 W
        have KX : Hid (∀ W, Kept (fun _ => False) wr W → B.rep j l2 T W) := fun W hk => hB.kept rx hk (fun _ _ x => x)
        have KY : Hid (∀ W, Kept (fun _ => False) wr W → B.rep j ly T W) := fun W hk => hB.kept ry hk (fun _ _ x => x)
        generalize imgOf T 0 = IM at HI1 HI2
        generalize imgE 0 = IE at HI1 HI2
        clear HP0 x1 x2 rx ry hinv xo m1 m2 hap2 lo2
        go_wp2_with fail
        refine Calls.mono (HT1.out _ (KX.out _ (Kept.refl _ _))) ?_
        rintro e w7 ⟨rfl, b7⟩
        unfold St.told
        have k7 : Kept (fun _ => False) wr w7 := Kept.below b7
        go_wp2_with fail
        refine Calls.mono (HT2.out _ (KY.out _ (k7.alloc _))) ?_
        rintro e w8 ⟨rfl, b8⟩
        unfold St.told
        have z8 : w7.heap.size < w8.heap.size := by have := b8.size; rw [World.size_alloc] at this; omega
        have k8 : Kept (fun _ => False) wr w8 := (k7.alloc _).trans (Kept.below b8)
        have b8k := Kept.below (S := fun _ => False) b8
        clear b8
        go_wp2_with fail
        refine Calls.mono (HI1.out _ (KX.out _ (k8.alloc _))) ?_
        rintro e w9 ⟨rfl, b9⟩
        have z9 : w8.heap.size < w9.heap.size := by have := b9.size; rw [World.size_alloc] at this; omega
        have k9 : Kept (fun _ => False) wr w9 := (k8.alloc _).trans (Kept.below b9)
        have b9k := Kept.below (S := fun _ => False) b9
        clear b9
        go_wp2_with fail
        refine Calls.mono (HI2.out _ (KY.out _ k9)) ?_
        rintro e w10 ⟨rfl, b10⟩
        have k10 : Kept (fun _ => False) wr w10 := k9.trans (Kept.below b10)
        have b10k := Kept.below (S := fun _ => False) b10
        have z10 : w8.heap.size < w10.heap.size := Nat.lt_of_lt_of_le z9 b10k.size
        have z10' : w7.heap.size < w10.heap.size := by omega
        obtain ⟨hct, hft⟩ := kcell (b9k.trans b10k) (b := w8.heap.size) (by simp) (fun x => x)
        obtain ⟨hcs, hfs⟩ := kcell (b8k.trans (((Kept.refl _ w8).alloc _).trans (b9k.trans b10k))) (b := w7.heap.size) (by simp) (fun x => x)
        have b10' : Below w.heap.size w w10 := xb.trans ⟨k10.os, k10.tape, k10.output, k10.size, fun k hk => k10.block k (by have := xb.size; omega) (fun x => x)⟩
        clear b8k b9k b10k b10 k7 k8 k9 k10 HT1 HT2 HI1 HI2 KX KY
        go_wp2
        go_ret
        exact ⟨rfl, b10'⟩

end Go.Proofs.Ytikdbpphbdbdnaa
