/- Image and Peek of both boards; one step of a script of the kinds Run, Image and Peek. -/
import Derived.Test.YtikdbpphbdbdnaaGreatStepCM
namespace Go.Proofs.YtikdbpphbdbdnaaGreat
open Go.RowKit
set_option linter.unusedVariables false

theorem Rimage_any {L : Lay} {st : St} {w : World} (hr : Rep L st w) (hi : Inv st) (k : Int) :
    Calls Tryz.prog 39 #[.pointer (some ⟨L.g, 0, none⟩), .int .i64 k] w fun e w' => e = .returned (.tuple #[.string (imgOf st k), .int .i64 (imgE k)]) ∧ w' = w := by
  unfold imgOf imgE
  by_cases h0 : k = 0
  · subst h0
    rw [if_pos rfl, if_pos (Or.inl rfl)]
    exact Rimage_0 hr hi.b0
  · rw [if_neg h0]
    by_cases h1 : k = 1
    · subst h1
      rw [if_pos rfl, if_pos (Or.inr rfl)]
      exact Rimage_1 hr hi.b1
    · rw [if_neg h1, if_neg (fun x => x.elim h0 h1)]
      exact Rimage_no k (by omega)

theorem Rpeek_any {L : Lay} {st : St} {w : World} (hr : Rep L st w) (k : Int) :
    Calls Tryz.prog 41 #[.pointer (some ⟨L.g, 0, none⟩), .int .i64 k] w fun e w' => e = .returned (.tuple #[.int .u8 (peekOf st k), .int .i64 (peekE k)]) ∧ w' = w := by
  unfold peekOf peekE
  by_cases h0 : 0 ≤ k ∧ k ≤ 127
  · rw [if_pos h0, if_pos h0]
    have h := Rpeek_ok hr k.toNat (by omega)
    rw [Int.toNat_of_nonneg h0.1] at h
    exact h
  · rw [if_neg h0, if_neg h0]
    exact Rpeek_no k (by omega)

set_option maxRecDepth 100000 in
set_option maxHeartbeats 1000000 in
theorem tells_image {B : PB} (hB : PBok B) (hMo : PBmore B) {n : Nat} {L : Lay} {l : B.Lt} {st : St} {w : World} (h : Both B n L l st w) (a b p q : Int) (s t : ByteArray) (la : Option Addr) (ll lc : Nat) :
    Calls Tryz.prog 18 #[.agg #[.pointer (some ⟨B.g l, 0, none⟩), .pointer (some ⟨L.g, 0, none⟩)], .agg #[.int .i64 10, .int .i64 a, .int .i64 b, .string s, .string t, .int .i64 p, .int .i64 q, .slice la ll lc]] w fun e w' => e = .returned (.bool true) ∧ ∃ l' st', Gone B n L l w w' l' st' := by
  have HX : Hid (∀ W, B.rep n l st W → Calls Tryz.prog 38 #[.pointer (some ⟨B.g l, 0, none⟩), .int .i64 b] W fun e w' => e = .returned (.tuple #[.string (imgOf st b), .int .i64 (imgE b)]) ∧ Below W.heap.size W w') := fun W hW => hMo.image n l st W b hW h.inv
  have HR : Hid (∀ W, Rep L st W → Calls Tryz.prog 39 #[.pointer (some ⟨L.g, 0, none⟩), .int .i64 b] W fun e w' => e = .returned (.tuple #[.string (imgOf st b), .int .i64 (imgE b)]) ∧ w' = W) := fun W hW => Rimage_any hW h.inv b
  generalize imgOf st b = im at HX HR
  generalize imgE b = ie at HX HR
  go_enter Tryz.func18, Tryz.ntmps18
  go_wp2_with fail
  refine Calls.mono (HX.out _ (hB.kept (S := fun _ => False) h.x (((Kept.refl _ w).alloc _).alloc _) (fun _ _ x => x))) ?_
  rintro e w1 ⟨rfl, bl1⟩
  obtain ⟨hc, hf⟩ := bcell bl1
  have hz0 : w.heap.size < w1.heap.size := by have := bl1.size; simp at this; omega
  have hz1 : w.heap.size + 1 < w1.heap.size := by have := bl1.size; simp at this; omega
  have e0 : w1.cell? ⟨w.heap.size, 1, none⟩ = some (.pointer (some ⟨L.g, 0, none⟩)) := by rw [hc _ _ (by simp; omega)]; simp [go_sem]
  have e1 : w1.cell? ⟨w.heap.size + 1, 2, none⟩ = some (.int .i64 b) := by rw [hc _ _ (by simp)]; simp [go_sem]
  have k1 : Kept (fun _ => False) w w1 := (((Kept.refl _ w).alloc _).alloc _).trans (Kept.below bl1)
  have b1 := h.kept hB k1 (fun _ _ x => x)
  clear hc hf bl1
  go_wp2_with fail
  refine Calls.mono (HR.out _ b1.r) ?_
  rintro e w2 ⟨rfl, hv⟩
  obtain rfl := hv.symm
  go_wp2_with (go_at_call 22; refine (num_same _ _).mono ?_; rintro e w' ⟨rfl, rfl⟩)
  go_ret
  exact ⟨rfl, l, st, rfl, b1, k1.wide (fun _ x => x.elim), fun k hk => Or.inl hk⟩

set_option maxRecDepth 100000 in
set_option maxHeartbeats 1000000 in
theorem tells_peek {B : PB} (hB : PBok B) (hMo : PBmore B) {n : Nat} {L : Lay} {l : B.Lt} {st : St} {w : World} (h : Both B n L l st w) (a b p q : Int) (s t : ByteArray) (la : Option Addr) (ll lc : Nat) :
    Calls Tryz.prog 18 #[.agg #[.pointer (some ⟨B.g l, 0, none⟩), .pointer (some ⟨L.g, 0, none⟩)], .agg #[.int .i64 11, .int .i64 a, .int .i64 b, .string s, .string t, .int .i64 p, .int .i64 q, .slice la ll lc]] w fun e w' => e = .returned (.bool true) ∧ ∃ l' st', Gone B n L l w w' l' st' := by
  have HX : Hid (∀ W, B.rep n l st W → Calls Tryz.prog 40 #[.pointer (some ⟨B.g l, 0, none⟩), .int .i64 b] W fun e w' => e = .returned (.tuple #[.int .u8 (peekOf st b), .int .i64 (peekE b)]) ∧ Below W.heap.size W w') := fun W hW => hMo.peek n l st W b hW
  have HR : Hid (∀ W, Rep L st W → Calls Tryz.prog 41 #[.pointer (some ⟨L.g, 0, none⟩), .int .i64 b] W fun e w' => e = .returned (.tuple #[.int .u8 (peekOf st b), .int .i64 (peekE b)]) ∧ w' = W) := fun W hW => Rpeek_any hW b
  generalize peekOf st b = im at HX HR
  generalize peekE b = ie at HX HR
  go_enter Tryz.func18, Tryz.ntmps18
  go_wp2_with fail
  refine Calls.mono (HX.out _ (hB.kept (S := fun _ => False) h.x (((Kept.refl _ w).alloc _).alloc _) (fun _ _ x => x))) ?_
  rintro e w1 ⟨rfl, bl1⟩
  obtain ⟨hc, hf⟩ := bcell bl1
  have hz0 : w.heap.size < w1.heap.size := by have := bl1.size; simp at this; omega
  have hz1 : w.heap.size + 1 < w1.heap.size := by have := bl1.size; simp at this; omega
  have e0 : w1.cell? ⟨w.heap.size, 1, none⟩ = some (.pointer (some ⟨L.g, 0, none⟩)) := by rw [hc _ _ (by simp; omega)]; simp [go_sem]
  have e1 : w1.cell? ⟨w.heap.size + 1, 2, none⟩ = some (.int .i64 b) := by rw [hc _ _ (by simp)]; simp [go_sem]
  have k1 : Kept (fun _ => False) w w1 := (((Kept.refl _ w).alloc _).alloc _).trans (Kept.below bl1)
  have b1 := h.kept hB k1 (fun _ _ x => x)
  clear hc hf bl1
  go_wp2_with fail
  refine Calls.mono (HR.out _ b1.r) ?_
  rintro e w2 ⟨rfl, hv⟩
  obtain rfl := hv.symm
  go_wp2_with (go_at_call 22; refine (num_same _ _).mono ?_; rintro e w' ⟨rfl, rfl⟩)
  go_ret
  exact ⟨rfl, l, st, rfl, b1, k1.wide (fun _ x => x.elim), fun k hk => Or.inl hk⟩

end Go.Proofs.YtikdbpphbdbdnaaGreat
