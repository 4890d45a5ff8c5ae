/- The program's board: Run, over any inner board whose Step is known. -/
import Derived.Test.YtikdbpphbdbdnaaGreatPairQ
import Derived.Deep.RegionHeld3
import Derived.Laws.MakeOwn
namespace Go.Proofs.YtikdbpphbdbdnaaGreat
open Go.RowKit
set_option linter.unusedVariables false

/-- The inner board's Step. -/
def StepIn (B : PB) (gi : B.Lt → Nat) : Prop := ∀ (n : Nat) (l : B.Lt) (st : St) (w : World) (rs : Bool) (v p : Int), B.rep n l st w → n < 1152921504606846976 → Inv st → 0 ≤ p → p ≤ 255 →
    Calls Tryz.prog 58 #[.pointer (some ⟨gi l, 0, none⟩), .agg #[.bool rs, .int .i64 v, .int .u8 p]] w fun e w' => e = .returned (.agg #[.int .i64 (st.step ⟨rs, v, p⟩).2.kind, .int .i64 (st.step ⟨rs, v, p⟩).2.addr, .int .u8 (st.step ⟨rs, v, p⟩).2.data, .int .u8 (st.step ⟨rs, v, p⟩).2.out]) ∧
      ∃ l' : B.Lt, gi l' = gi l ∧ B.g l' = B.g l ∧ B.rep (n + 1) l' (st.step ⟨rs, v, p⟩).1 w' ∧ Kept (B.own l) w w' ∧ ∀ k, B.own l' k → B.own l k ∨ w.heap.size ≤ k

/-- No cycle at all. -/
def noCy : Cy := ⟨0, 0, 0, 0⟩

theorem madeCy (n k : Nat) (hk : k < n * 4) : (madeCells #[Value.int .i64 0, .int .i64 0, .int .u8 0, .int .u8 0] (n * 4))[k]? = some (cyCell noCy (k % 4)) := by
  unfold madeCells
  rw [Array.getElem?_map, Array.getElem?_range, if_pos hk]
  have h4 : k % 4 < 4 := Nat.mod_lt _ (by omega)
  show some (#[Value.int .i64 0, .int .i64 0, .int .u8 0, .int .u8 0][k % 4]!) = _
  rcases (by omega : k % 4 = 0 ∨ k % 4 = 1 ∨ k % 4 = 2 ∨ k % 4 = 3) with h | h | h | h <;> rw [h] <;> rfl

theorem run_makeCy (w : World) (m : Nat) (hm : m ≤ 5864062014805) : (Instr.makeSlice 52 (.int .i64 (m : Int)) (.int .i64 (m : Int))).run Tryz.prog w = .ok (.slice (some ⟨w.heap.size, 0, none⟩) m m) (w.alloc (.cells (madeCells #[.int .i64 0, .int .i64 0, .int .u8 0, .int .u8 0] (m * 4)) 54)) := by
  have hq : (Tryz.prog.info? 54).map (fun i => (i.size, i.bytes, i.zero.map (·.cells))) = some (4, 24, some #[.int .i64 0, .int .i64 0, .int .u8 0, .int .u8 0]) := by kernel_rfl
  obtain ⟨i, hi, h2⟩ := Option.map_eq_some_iff.1 hq
  simp only [Prod.mk.injEq] at h2
  obtain ⟨h3, h4, h5⟩ := h2
  obtain ⟨z, hz, hc⟩ := Option.map_eq_some_iff.1 h5
  have h := run_make (P := Tryz.prog) w 52 54 i z Tryz.underlying52 hi hz .i64 .i64 (m : Int) (m : Int) (by omega) (Int.le_refl _) (by rw [h4]; omega) (by omega)
  rw [hc, h3, Int.toNat_natCast] at h
  exact h

theorem heap_new (w : World) (o : Obj) : (w.alloc o).heap[w.heap.size]? = some o := by
  unfold World.alloc
  simp only [Array.getElem?_push_size]

/-- One element of four cells has turned. -/
theorem raw_put4 {b m i : Nat} {F F' : Nat → Value} {w : World} (h : Raw b (m * 4) F w) (hi : i < m) (c : Nat → Value) (hF : ∀ k, k < m * 4 → F' k = if k / 4 = i then c (k % 4) else F k) : Raw b (m * 4) F' ((((w.setCell ⟨b, i * 4, none⟩ (c 0)).setCell ⟨b, i * 4 + 1, none⟩ (c 1)).setCell ⟨b, i * 4 + 2, none⟩ (c 2)).setCell ⟨b, i * 4 + 3, none⟩ (c 3)) := by
  have h1 := Raw.set (F' := fun k => if k = i * 4 then c 0 else F k) h (k := i * 4) (by omega) (c 0) (fun _ _ => rfl)
  have h2 := Raw.set (F' := fun k => if k = i * 4 + 1 then c 1 else if k = i * 4 then c 0 else F k) h1 (k := i * 4 + 1) (by omega) (c 1) (fun _ _ => rfl)
  have h3 := Raw.set (F' := fun k => if k = i * 4 + 2 then c 2 else if k = i * 4 + 1 then c 1 else if k = i * 4 then c 0 else F k) h2 (k := i * 4 + 2) (by omega) (c 2) (fun _ _ => rfl)
  refine Raw.set h3 (k := i * 4 + 3) (by omega) (c 3) (fun k hk => ?_)
  rw [hF k hk]
  by_cases e : k / 4 = i
  · rw [if_pos e]
    rcases (by omega : k = i * 4 ∨ k = i * 4 + 1 ∨ k = i * 4 + 2 ∨ k = i * 4 + 3) with x | x | x | x
    · rw [show k % 4 = 0 by omega, if_neg (by omega), if_neg (by omega), if_neg (by omega), if_pos x]
    · rw [show k % 4 = 1 by omega, if_neg (by omega), if_neg (by omega), if_pos x]
    · rw [show k % 4 = 2 by omega, if_neg (by omega), if_pos x]
    · rw [show k % 4 = 3 by omega, if_pos x]
  · rw [if_neg e, if_neg (by omega), if_neg (by omega), if_neg (by omega), if_neg (by omega)]

set_option maxRecDepth 100000 in
set_option maxHeartbeats 1000000 in
theorem xRun_any {B : PB} (hB : PBok B) {gi : B.Lt → Nat} (hs : StepIn B gi) {n : Nat} {l : B.Lt} {st : St} {w : World} (a : Option Addr) (m cap : Nat) (ins : Nat → In) (hr : B.rep n l st w) (hn : n + m < 1152921504606846976) (hm : m ≤ 5864062014805) (hi : Inv st) (ha : m = 0 ∨ ∃ b off, a = some ⟨b, off, none⟩ ∧ b < w.heap.size ∧ ¬ B.own l b ∧ InsAt w b off m ins) :
    Calls Tryz.prog 48 #[.pointer (some ⟨gi l, 0, none⟩), .slice a m cap] w fun e w' => ∃ c, e = .returned (.slice (some ⟨c, 0, none⟩) m m) ∧ w.heap.size ≤ c ∧ c < w'.heap.size ∧ CysAt w' c m (st.cyc ins) ∧
      ∃ l' : B.Lt, gi l' = gi l ∧ B.g l' = B.g l ∧ B.rep (n + m) l' (st.after ins m) w' ∧ Kept (B.own l) w w' ∧ (∀ k, B.own l' k → B.own l k ∨ w.heap.size ≤ k) ∧ ¬ B.own l' c := by
  have hmk := run_makeCy w m hm
  go_enter Tryz.func48, Tryz.ntmps48
  go_wp2
  have k0 : Kept (B.own l) w (w.alloc (.cells (madeCells #[.int .i64 0, .int .i64 0, .int .u8 0, .int .u8 0] (m * 4)) 54)) := (Kept.refl _ _).alloc _
  have r0 : B.rep n l st (w.alloc (.cells (madeCells #[.int .i64 0, .int .i64 0, .int .u8 0, .int .u8 0] (m * 4)) 54)) := hB.kept hr (S := fun _ => False) ((Kept.refl _ _).alloc _) (fun _ _ x => x)
  have c0 : Raw w.heap.size (m * 4) (fun k => cyCell (if k / 4 < 0 then st.cyc ins (k / 4) else noCy) (k % 4)) (w.alloc (.cells (madeCells #[.int .i64 0, .int .i64 0, .int .u8 0, .int .u8 0] (m * 4)) 54)) := fun k hk => by
    have g0 := heap_new w (.cells (madeCells #[.int .i64 0, .int .i64 0, .int .u8 0, .int .u8 0] (m * 4)) 54)
    refine ⟨?_, ?_⟩
    · simp only [World.cell?, g0]
      rw [if_neg (by simp)]
      exact madeCy m k hk
    · simp only [World.frozen?, g0]
      simp
  have lo : ∀ k, B.own l k → k < w.heap.size := fun k hk => hB.lt hr hk
  go_loopw [13] (fun t13 wx => ∃ (i : Nat) (l1 : B.Lt), i ≤ m ∧ t13 = .int .i64 i ∧ gi l1 = gi l ∧ B.g l1 = B.g l ∧ B.rep (n + i) l1 (st.after ins i) wx ∧ Kept (B.own l) w wx ∧ (∀ k, B.own l1 k → (B.own l k ∨ w.heap.size ≤ k) ∧ k ≠ w.heap.size) ∧ w.heap.size < wx.heap.size ∧ Raw w.heap.size (m * 4) (fun k => cyCell (if k / 4 < i then st.cyc ins (k / 4) else noCy) (k % 4)) wx) (fun t13 _ => m - (intOf t13).toNat)
  case atStart => exact ⟨0, l, by omega, rfl, rfl, rfl, r0, k0, fun k hk => ⟨Or.inl hk, by have := lo k hk; omega⟩, by simp, c0⟩
  case round =>
    obtain ⟨i, l1, hj, rfl, hg, hg1, hr1, hk1, ho1, hz1, hc1⟩ := hrel
    clear k0 r0 c0 hmk
    by_cases h : i < m
    · have h' : (i : Int) < (m : Int) := by omega
      rcases ha with ha | ⟨b, off, rfl, hb, hbo, hin⟩
      · omega
      have hin1 := hin.kept hk1 hb hbo
      obtain ⟨p0, p1, x0, x1, x2⟩ := hin1 i h
      have hS : Hid (∀ W, B.rep (n + i) l1 (st.after ins i) W → Calls Tryz.prog 58 #[.pointer (some ⟨gi l, 0, none⟩), .agg #[.bool (ins i).reset, .int .i64 (ins i).volts, .int .u8 (ins i).port]] W fun e w' => e = .returned (.agg #[.int .i64 (st.cyc ins i).kind, .int .i64 (st.cyc ins i).addr, .int .u8 (st.cyc ins i).data, .int .u8 (st.cyc ins i).out]) ∧ ∃ l' : B.Lt, gi l' = gi l ∧ B.g l' = B.g l ∧ B.rep (n + i + 1) l' (st.after ins (i + 1)) w' ∧ Kept (B.own l1) W w' ∧ ∀ k, B.own l' k → B.own l1 k ∨ W.heap.size ≤ k) := fun W hW => by
        have q := hs (n + i) l1 (st.after ins i) W (ins i).reset (ins i).volts (ins i).port hW (by omega) (St.after_inv hi (fun j hj => ⟨(hin j hj).1, (hin j hj).2.1⟩) i (by omega)) p0 p1
        rw [hg, hg1] at q
        exact q
      have r1 := hB.kept hr1 (S := fun _ => False) ((Kept.refl _ wr).alloc (.cells #[.bool (ins i).reset, .int .i64 (ins i).volts, .int .u8 (ins i).port] 40)) (fun _ _ x => x)
      have k1 : Kept (B.own l) w (wr.alloc (.cells #[.bool (ins i).reset, .int .i64 (ins i).volts, .int .u8 (ins i).port] 40)) := hk1.alloc _
      have cc1 := hc1.kept ((Kept.refl (fun _ => False) wr).alloc (.cells #[.bool (ins i).reset, .int .i64 (ins i).volts, .int .u8 (ins i).port] 40)) hz1 (fun x => x)
      have hlt1 : ∀ k, B.own l1 k → k < wr.heap.size := fun k hk => hB.lt hr1 hk
      clear hs hr1 hk1 hc1 hin1
      go_wp2_with fail
      refine Calls.mono (hS.out _ r1) ?_
      rintro e w4 ⟨rfl, l2, g2, g3, r4, k4, o4⟩
      have hz4 : w.heap.size < w4.heap.size := by have := k4.size; rw [World.size_alloc] at this; omega
      have cc4 := cc1.kept k4 (by rw [World.size_alloc]; omega) (fun x => (ho1 _ x).2 rfl)
      have kk4 : Kept (B.own l) w w4 := ⟨k4.os.trans k1.os, k4.tape.trans k1.tape, k4.output.trans k1.output, Nat.le_trans k1.size k4.size, fun k hk hS => (k4.block k (Nat.lt_of_lt_of_le hk k1.size) (fun x => by rcases (ho1 k x).1 with y | y; exact hS y; omega)).trans (k1.block k hk hS)⟩
      have ho2 : ∀ k, B.own l2 k → (B.own l k ∨ w.heap.size ≤ k) ∧ k ≠ w.heap.size := fun k hk => by
        rcases o4 k hk with y | y
        · exact ho1 k y
        · rw [World.size_alloc] at y
          exact ⟨Or.inr (by omega), by omega⟩
      have q0 := cc4 (i * 4) (by omega)
      have q1 := cc4 (i * 4 + 1) (by omega)
      have q2 := cc4 (i * 4 + 2) (by omega)
      have q3 := cc4 (i * 4 + 3) (by omega)
      obtain ⟨a0, b0⟩ := q0
      obtain ⟨a1, b1⟩ := q1
      obtain ⟨a2, b2⟩ := q2
      obtain ⟨a3, b3⟩ := q3
      clear cc1 k4 o4 r1 k1 hlt1 hS x0 x1 x2
      generalize hC : st.cyc ins i = C at *
      have fin : Raw w.heap.size (m * 4) (fun k => cyCell (if k / 4 < i + 1 then st.cyc ins (k / 4) else noCy) (k % 4)) ((((w4.setCell ⟨w.heap.size, i * 4, none⟩ (.int .i64 C.kind)).setCell ⟨w.heap.size, i * 4 + 1, none⟩ (.int .i64 C.addr)).setCell ⟨w.heap.size, i * 4 + 2, none⟩ (.int .u8 C.data)).setCell ⟨w.heap.size, i * 4 + 3, none⟩ (.int .u8 C.out)) := by
        refine raw_put4 cc4 h (cyCell C) fun k hk => ?_
        by_cases e : k / 4 = i
        · rw [if_pos e, if_pos (by omega), e, hC]
        · rw [if_neg e]
          by_cases e2 : k / 4 < i
          · rw [if_pos (by omega), if_pos e2]
          · rw [if_neg (by omega), if_neg e2]
      have kF : Kept (fun k => k = w.heap.size) w4 ((((w4.setCell ⟨w.heap.size, i * 4, none⟩ (.int .i64 C.kind)).setCell ⟨w.heap.size, i * 4 + 1, none⟩ (.int .i64 C.addr)).setCell ⟨w.heap.size, i * 4 + 2, none⟩ (.int .u8 C.data)).setCell ⟨w.heap.size, i * 4 + 3, none⟩ (.int .u8 C.out)) := ((((Kept.refl (fun k => k = w.heap.size) w4).setCell (b := w.heap.size) (Or.inl rfl) _).setCell (b := w.heap.size) (Or.inl rfl) _).setCell (b := w.heap.size) (Or.inl rfl) _).setCell (b := w.heap.size) (Or.inl rfl) _
      go_wp2
      exact ⟨⟨i + 1, l2, by omega, by go_num, g2, g3, hB.kept r4 kF (fun k hk => (ho2 k hk).2), (((kk4.setCell (Or.inr (Nat.le_refl _)) _).setCell (Or.inr (Nat.le_refl _)) _).setCell (Or.inr (Nat.le_refl _)) _).setCell (Or.inr (Nat.le_refl _)) _, ho2, by simpa using hz4, fin⟩, by simp [intOf]; omega⟩
    · have h' : ¬ (i : Int) < (m : Int) := by omega
      have ei : i = m := by omega
      subst ei
      go_wp2
      go_ret
      refine ⟨w.heap.size, rfl, Nat.le_refl _, hz1, ?_, l1, hg, hg1, hr1, hk1, fun k hk => (ho1 k hk).1, fun x => (ho1 _ x).2 rfl⟩
      intro k hk
      have h4 : k / 4 < i := by omega
      have h5 := hc1 k hk
      have e5 : (if k / 4 < i then st.cyc ins (k / 4) else noCy) = st.cyc ins (k / 4) := if_pos h4
      show wr.cell? ⟨w.heap.size, k, none⟩ = some (cyCell (st.cyc ins (k / 4)) (k % 4)) ∧ _
      rw [← e5]
      exact h5

end Go.Proofs.YtikdbpphbdbdnaaGreat
