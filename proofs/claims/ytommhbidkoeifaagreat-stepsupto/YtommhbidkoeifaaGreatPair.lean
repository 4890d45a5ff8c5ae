/- A board of the program, whatever it is made of, beside the document's: what is asked of it, and one cycle of both. -/
import Derived.Test.YtommhbidkoeifaaGreatRef12
namespace Go.Proofs.YtommhbidkoeifaaGreat
open Go.RowKit
set_option linter.unusedVariables false

/-- How the program's board lies in memory: Lt: a layout; g: the block that its pointer leads to; own: its blocks; rep n: it lies there, in this state, and has had n cycles at most. -/
structure PB where
  Lt : Type
  g : Lt → Nat
  own : Lt → Nat → Prop
  rep : Nat → Lt → St → World → Prop

/-- What is asked of it. -/
structure PBok (B : PB) : Prop where
  more : ∀ {n m : Nat} {l : B.Lt} {st : St} {w : World}, B.rep n l st w → n ≤ m → B.rep m l st w
  lt : ∀ {n : Nat} {l : B.Lt} {st : St} {w : World} {k : Nat}, B.rep n l st w → B.own l k → k < w.heap.size
  kept : ∀ {n : Nat} {l : B.Lt} {st : St} {w w' : World} {S : Nat → Prop}, B.rep n l st w → Kept S w w' → (∀ k, B.own l k → ¬ S k) → B.rep n l st w'
  new_no : ∀ (a b : ByteArray) (w : World), a.size ≤ maxLen → b.size ≤ maxLen → ¬ (a.size = 64 ∧ b.size = 64) →
    Calls Tryz.prog 25 #[.string a, .string b] w fun e w' => e = .returned (.tuple #[.pointer none, .int .i64 1]) ∧ Below w.heap.size w w'
  new_ok : ∀ (a b : ByteArray) (w : World), a.size = 64 → b.size = 64 →
    Calls Tryz.prog 25 #[.string a, .string b] w fun e w' => ∃ l : B.Lt, e = .returned (.tuple #[.pointer (some ⟨B.g l, 0, none⟩), .int .i64 0]) ∧ B.rep 0 l (newSt a b) w' ∧ Below w.heap.size w w' ∧ ∀ k, B.own l k → w.heap.size ≤ k
  step : ∀ (n : Nat) (l : B.Lt) (st : St) (w : World) (rs : Bool) (v p : Int), B.rep n l st w → n < 1152921504606846976 → Inv st → 0 ≤ p → p ≤ 255 →
    Calls Tryz.prog 45 #[.pointer (some ⟨B.g l, 0, none⟩), .agg #[.bool rs, .int .i64 v, .int .u8 p]] w fun e w' => e = .returned (.agg #[.int .i64 (st.step ⟨rs, v, p⟩).2.kind, .int .i64 (st.step ⟨rs, v, p⟩).2.addr, .int .u8 (st.step ⟨rs, v, p⟩).2.data, .int .u8 (st.step ⟨rs, v, p⟩).2.out]) ∧
      ∃ l' : B.Lt, B.g l' = B.g l ∧ B.rep (n + 1) l' (st.step ⟨rs, v, p⟩).1 w' ∧ Kept (B.own l) w w' ∧ ∀ k, B.own l' k → B.own l k ∨ w.heap.size ≤ k
  tell : ∀ (n : Nat) (l : B.Lt) (st : St) (w : World), B.rep n l st w → Inv st →
    Calls Tryz.prog 34 #[.pointer (some ⟨B.g l, 0, none⟩)] w fun e w' => e = .returned st.told ∧ B.rep n l st w' ∧ Below w.heap.size w w'

/-- Both boards stand alike, and share no block. -/
structure Both (B : PB) (n : Nat) (L : Lay) (l : B.Lt) (st : St) (w : World) : Prop where
  r : Rep L st w
  x : B.rep n l st w
  inv : Inv st
  apart : ∀ k, L.own k → ¬ B.own l k

/-- The blocks of both. -/
def bothOwn (B : PB) (L : Lay) (l : B.Lt) (k : Nat) : Prop := L.own k ∨ B.own l k

theorem Both.kept {B : PB} (hB : PBok B) {n : Nat} {S : Nat → Prop} {L : Lay} {l : B.Lt} {st : St} {w w' : World} (h : Both B n L l st w) (hk : Kept S w w') (hS : ∀ k, bothOwn B L l k → ¬ S k) : Both B n L l st w' :=
  ⟨h.r.kept hk (fun k hk => hS k (Or.inl hk)), hB.kept h.x hk (fun k hk => hS k (Or.inr hk)), h.inv, h.apart⟩

theorem Both.more {B : PB} (hB : PBok B) {n m : Nat} {L : Lay} {l : B.Lt} {st : St} {w : World} (h : Both B n L l st w) (hm : n ≤ m) : Both B m L l st w := ⟨h.r, hB.more h.x hm, h.inv, h.apart⟩

theorem Both.lt {B : PB} (hB : PBok B) {n : Nat} {L : Lay} {l : B.Lt} {st : St} {w : World} (h : Both B n L l st w) {k : Nat} (hk : bothOwn B L l k) : k < w.heap.size := by
  rcases hk with hk | hk
  · obtain ⟨h1, h2, h3⟩ := h.r.lt
    rcases hk with rfl | rfl | rfl
    · exact h1
    · exact h2
    · exact h3
  · exact hB.lt h.x hk

set_option maxRecDepth 100000 in
set_option maxHeartbeats 1000000 in
theorem stepped_any {B : PB} (hB : PBok B) {n : Nat} (hn : n < 1152921504606846976) {L : Lay} {l : B.Lt} {st : St} {w : World} (h : Both B n L l st w) (rs : Bool) (v p : Int) (hp0 : 0 ≤ p) (hp1 : p ≤ 255) :
    Calls Tryz.prog 28 #[.agg #[.pointer (some ⟨B.g l, 0, none⟩), .pointer (some ⟨L.g, 0, none⟩)], .agg #[.bool rs, .int .i64 v, .int .u8 p]] w fun e w' => e = .returned (.bool true) ∧
      ∃ l' : B.Lt, B.g l' = B.g l ∧ Both B (n + 1) L l' (st.step ⟨rs, v, p⟩).1 w' ∧ Kept (bothOwn B L l) w w' ∧ ∀ k, B.own l' k → B.own l k ∨ w.heap.size ≤ k := by
  have hfB : ∀ n, w.heap.size ≤ n → ¬ B.own l n := fun n hn e => by have := hB.lt h.x e; omega
  have hfL := h.r.fresh
  have hinv := h.inv.step ⟨rs, v, p⟩ ⟨hp0, hp1⟩
  go_enter Tryz.func28, Tryz.ntmps28
  go_wp2_with fail
  refine (hB.step n l st _ rs v p (hB.kept (S := fun _ => False) h.x (((Kept.refl _ w).alloc _).alloc _) (fun _ _ x => x)) hn h.inv hp0 hp1).mono ?_
  rintro e w1 ⟨rfl, l', hg, hx1, k1, ho⟩
  obtain ⟨hc, hf⟩ := kcell k1 (b := w.heap.size) (by simp <;> omega) (hfB _ (Nat.le_refl _))
  obtain ⟨hc2, hf2⟩ := kcell k1 (b := w.heap.size + 1) (by simp <;> omega) (hfB _ (by omega))
  have hz : w.heap.size + 1 < w1.heap.size := by have := k1.size; simp at this; omega
  have hr1 : Rep L st w1 := h.r.kept (((Kept.refl (B.own l) w).alloc _).alloc _ |>.trans k1) h.apart
  have hz0 : w.heap.size < w1.heap.size := by omega
  have hcallR := Rstep_any (hr1.alloc (.cells #[.int .i64 (st.step ⟨rs, v, p⟩).2.kind, .int .i64 (st.step ⟨rs, v, p⟩).2.addr, .int .u8 (st.step ⟨rs, v, p⟩).2.data, .int .u8 (st.step ⟨rs, v, p⟩).2.out] 54)) h.inv rs v p hp0 hp1
  generalize hst : st.step ⟨rs, v, p⟩ = A at hx1 hcallR hinv ⊢
  have HS : Hid _ := hst
  have HC : Hid _ := hcallR
  clear hst hcallR
  go_wp2_with fail
  refine Calls.mono HC.out ?_
  rintro e w2 ⟨rfl, hr2, k2⟩
  have hfL1 := hr1.fresh
  obtain ⟨hc3, hf3⟩ := kcell k2 (b := w1.heap.size) (by simp) (hfL1 _ (Nat.le_refl _))
  have hz2 : w1.heap.size < w2.heap.size := by have := k2.size; simp at this; omega
  go_wp2
  go_ret
  refine ⟨rfl, l', hg, ?_⟩
  rw [HS.out]
  have kA : Kept (bothOwn B L l) w w1 := (((Kept.refl _ w).alloc _).alloc _).trans (k1.wide (fun k hk => Or.inr hk))
  have kB : Kept (bothOwn B L l) w1 w2 := ((Kept.refl _ w1).alloc _).trans (k2.wide (fun k hk => Or.inl hk))
  have hown : ∀ k, B.own l' k → B.own l k ∨ w.heap.size ≤ k := fun k hk => by
    rcases ho k hk with h1 | h1
    · exact Or.inl h1
    · exact Or.inr (by simp at h1; omega)
  have hap : ∀ k, L.own k → ¬ B.own l' k := fun k hL hk => by
    rcases hown k hk with h1 | h1
    · exact h.apart k hL h1
    · exact hfL k h1 hL
  refine ⟨⟨hr2.alloc _, ?_, hinv, hap⟩, (kA.trans kB).alloc _, hown⟩
  refine hB.kept (S := L.own) hx1 (((((Kept.refl _ w1).alloc _).trans k2)).alloc _) (fun k hk hL => hap k hL hk)

end Go.Proofs.YtommhbidkoeifaaGreat
