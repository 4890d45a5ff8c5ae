/- Tell of both boards. -/
import Derived.Test.YtommhbidkoeifaaGreatSteps
import Derived.ChangeKeysEq
namespace Go.Proofs.YtommhbidkoeifaaGreat
open Go.RowKit
set_option linter.unusedVariables false

theorem cellsOf_int' : Tryz.prog.cellsOf 3 = 1 := by kernel_rfl
theorem info_int : (Tryz.prog.info? 3).isSome = true := by kernel_rfl

/-- Two numbers are the same two numbers. -/
theorem eq_arr2 (x y : Int) (w : World) : (Op.equalIn 9999 33 (.agg #[.int .i64 x, .int .i64 y]) (.agg #[.int .i64 x, .int .i64 y])).run Tryz.prog w = .ok true w := by
  obtain ⟨i, hi⟩ := Option.isSome_iff_exists.1 info_int
  have h0 : (Op.equalIn 9998 3 (.int .i64 x) (.int .i64 x)).run Tryz.prog w = .ok true w := by
    rw [run_equalIn_int w 9997 3 .i64 .i64 x x Tryz.underlying3]; simp
  have h1 : (Op.equalIn 9998 3 (.int .i64 y) (.int .i64 y)).run Tryz.prog w = .ok true w := by
    rw [run_equalIn_int w 9997 3 .i64 .i64 y y Tryz.underlying3]; simp
  rw [show (9999 : Nat) = 9998 + 1 from rfl, run_equalIn_array (P := Tryz.prog) (w := w) 9998 _ _ Tryz.underlying33 hi, cellsOf_int']
  have p0 : (part 3 #[.int .i64 x, .int .i64 y] 0).run Tryz.prog w = .ok (.int .i64 x) w := by simp [go_sem]
  have p1 : (part 3 #[.int .i64 x, .int .i64 y] 1).run Tryz.prog w = .ok (.int .i64 y) w := by simp [go_sem]
  simp [Op.eqItems, List.range_succ, h0, h1, p0, p1]

set_option maxRecDepth 100000 in
set_option maxHeartbeats 1000000 in
theorem tells_tell {B : PB} (hB : PBok B) {n : Nat} {L : Lay} {l : B.Lt} {st : St} {w : World} (h : Both B n L l st w) (a b p q : Int) (s t : ByteArray) (la : Option Addr) (ll lc : Nat) :
    Calls Tryz.prog 16 #[.agg #[.pointer (some ⟨B.g l, 0, none⟩), .pointer (some ⟨L.g, 0, none⟩)], .agg #[.int .i64 8, .int .i64 a, .int .i64 b, .string s, .string t, .int .i64 p, .int .i64 q, .slice la ll lc]] w fun e w' => e = .returned (.bool true) ∧ ∃ l' st', Gone B n L l w w' l' st' := by
  have hfr : ∀ n, w.heap.size ≤ n → ¬ bothOwn B L l n := fun n hn e => by have := h.lt hB e; omega
  go_enter Tryz.func16, Tryz.ntmps16
  go_wp2_with fail
  refine (hB.tell n l st _ (hB.kept (S := fun _ => False) h.x (((Kept.refl _ w).alloc _).alloc _) (fun _ _ x => x)) h.inv).mono ?_
  rintro e w1 ⟨rfl, hx1, bl1⟩
  unfold St.told
  obtain ⟨hc, hf⟩ := bcell bl1
  have hz0 : w.heap.size < w1.heap.size := by have := bl1.size; simp at this; omega
  have hz1 : w.heap.size + 1 < w1.heap.size := by have := bl1.size; simp at this; omega
  have e0 : w1.cell? ⟨w.heap.size, 1, none⟩ = some (.pointer (some ⟨L.g, 0, none⟩)) := by rw [hc _ _ (by simp; omega)]; simp [go_sem]
  have k1 : Kept (fun _ => False) w w1 := (((Kept.refl _ w).alloc _).alloc _).trans (Kept.below bl1)
  have b1 := h.kept hB k1 (fun _ _ x => x)
  clear hc hf
  go_wp2_with fail
  refine (Rtell_any (b1.r.alloc _)).mono ?_
  rintro e w2 ⟨rfl, hr2, k2⟩
  unfold St.told
  obtain ⟨hc3, hf3⟩ := kcell k2 (b := w1.heap.size) (by simp) (b1.r.fresh _ (Nat.le_refl _))
  have hz2 : w1.heap.size < w2.heap.size := by have := k2.size; simp at this; omega
  have heq := fun W => eq_arr2 st.s0 st.s1 W
  go_wp2
  go_ret
  refine ⟨rfl, l, st, rfl, ⟨hr2.alloc _, ?_, h.inv, h.apart⟩, ?_, fun k hk => Or.inl hk⟩
  · exact hB.kept (S := L.own) hx1 ((((Kept.refl _ w1).alloc _).trans k2).alloc _) (fun k hk hL => h.apart k hL hk)
  · exact ((k1.wide (fun _ x => x.elim)).trans ((((Kept.refl _ w1).alloc _).trans k2).wide (fun k hk => Or.inl hk))).alloc _

end Go.Proofs.YtommhbidkoeifaaGreat
