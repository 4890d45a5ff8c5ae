/- One step of a script, of the kinds New, Made, Step, For and Tell. -/
import Derived.Test.YtikdbpphbdbdnaaGreatTableM
namespace Go.Proofs.YtikdbpphbdbdnaaGreat
open Go.RowKit
set_option linter.unusedVariables false

/-- What a step leaves: the table, and nothing else touched. -/
def Left (B : PB) (cy g base : Nat) (es : List (Ent B)) (w w' : World) : Prop :=
  ∃ vb' es', Tab B cy g base vb' es' w' ∧ es'.length ≤ es.length + 1 ∧ Kept (fun k => k = g ∨ base ≤ k) w w'

/-- made, whatever the texts. -/
theorem made_any {B : PB} (hB : PBok B) {cy g base : Nat} {vb : Value} {es : List (Ent B)} {w : World} (h : Tab B cy g base vb es w) (a b : ByteArray) (ha : a.size ≤ maxLen) (hb : b.size ≤ maxLen) (hcy : cy + 1048576 < 1152921504606846976) (h63 : es.length + 1 ≤ maxLen) (hby : (es.length + 1) * 16 ≤ 140737488355328) :
    Calls Tryz.prog 13 #[.pointer (some ⟨g, 0, none⟩), .string a, .string b] w fun e w' => e = .returned (.bool true) ∧ Left B (cy + 1048576) g base es w w' := by
  by_cases hs : a.size = 64 ∧ b.size = 64
  · refine (made_ok hB a b g base es.length vb (entCells B es) w hs.1 hs.2 h.c0 (h.fz 0 (by omega)) h.row h.ne h63 hby h.bs).mono fun e w' ⟨he, l, L, g', cap, h1, h2, h3, h4, h5, h6, h7, h8, h9⟩ => ⟨he, _, _, (h.more hB h1 h2 h3 h4 h6 (fun j => h9 j) (fun j hj => h8 j hj) h7).later hB (by omega), by simp, h7.wide (fun k hk => ?_)⟩
    rcases hk with hk | hk
    · exact Or.inl hk
    · exact Or.inr (row_block h.row hk).1
  · refine (made_no hB a b g w ha hb hs).mono fun e w' ⟨he, h1⟩ => ⟨he, vb, es, (h.quiet hB (Kept.below h1)).later hB (by omega), by omega, Kept.below h1⟩

theorem Left.before {B : PB} {cy g base : Nat} {es : List (Ent B)} {w w1 w' : World} (h : Left B cy g base es w1 w') (hk : Kept (fun k => k = g ∨ base ≤ k) w w1) : Left B cy g base es w w' := by
  obtain ⟨vb', es', h1, h2, h3⟩ := h
  exact ⟨vb', es', h1, h2, hk.trans h3⟩

theorem buildS_size (s : ByteArray) (n : Int) : (buildS s n).size ≤ maxLen := by
  unfold buildS maxLen
  split
  · show 0 ≤ _; omega
  split
  · show 0 ≤ _; omega
  · rw [imageOf_size s n (by omega)]; omega

set_option maxRecDepth 100000 in
set_option maxHeartbeats 1000000 in
theorem step_new {B : PB} (hB : PBok B) {cy g base : Nat} {vb : Value} {es : List (Ent B)} {w : World} (h : Tab B cy g base vb es w) (a b p q : Int) (s t : ByteArray) (la : Option Addr) (ll lc : Nat) (hs : s.size ≤ maxLen) (ht : t.size ≤ maxLen) (hcy : cy + 1048576 < 1152921504606846976) (h63 : es.length + 1 ≤ maxLen) (hby : (es.length + 1) * 16 ≤ 140737488355328) :
    Calls Tryz.prog 9 #[.pointer (some ⟨g, 0, none⟩), .agg #[.int .i64 4, .int .i64 a, .int .i64 b, .string s, .string t, .int .i64 p, .int .i64 q, .slice la ll lc]] w fun e w' => e = .returned (.bool true) ∧ Left B (cy + 1048576) g base es w w' := by
  have k0 := fun o => (Kept.refl (fun k => k = g ∨ base ≤ k) w).alloc o
  go_enter Tryz.func9, Tryz.ntmps9
  go_wp2_with fail
  refine (made_any hB (h.quiet hB ((Kept.refl _ w).alloc _)) s t hs ht hcy h63 hby).mono ?_
  rintro e w1 ⟨rfl, h1⟩
  have h2 := h1.before (k0 _)
  go_wp2
  go_ret
  exact ⟨rfl, h2⟩

set_option maxRecDepth 100000 in
set_option maxHeartbeats 1000000 in
theorem step_made {B : PB} (hB : PBok B) {cy g base : Nat} {vb : Value} {es : List (Ent B)} {w : World} (h : Tab B cy g base vb es w) (a b p q : Int) (s t : ByteArray) (la : Option Addr) (ll lc : Nat) (hcy : cy + 1048576 < 1152921504606846976) (h63 : es.length + 1 ≤ maxLen) (hby : (es.length + 1) * 16 ≤ 140737488355328) :
    Calls Tryz.prog 9 #[.pointer (some ⟨g, 0, none⟩), .agg #[.int .i64 5, .int .i64 a, .int .i64 b, .string s, .string t, .int .i64 p, .int .i64 q, .slice la ll lc]] w fun e w' => e = .returned (.bool true) ∧ Left B (cy + 1048576) g base es w w' := by
  go_enter Tryz.func9, Tryz.ntmps9
  go_wp2_with fail
  refine (rBuild_any s a _).mono ?_
  rintro e w1 ⟨rfl, b1⟩
  obtain ⟨hc, hf⟩ := bcell b1
  have hz : w.heap.size < w1.heap.size := by have := b1.size; simp at this; omega
  go_wp2_with fail
  refine (rBuild_any t b _).mono ?_
  rintro e w2 ⟨rfl, b2⟩
  have k2 : Kept (fun _ => False) w w2 := (((Kept.refl _ w).alloc _).trans (Kept.below b1)).trans (Kept.below b2)
  have h2 := h.quiet hB k2
  go_wp2_with fail
  refine (made_any hB h2 (buildS s a) (buildS t b) (buildS_size s a) (buildS_size t b) hcy h63 hby).mono ?_
  rintro e w3 ⟨rfl, h3⟩
  have h4 := h3.before (k2.wide (fun _ x => x.elim))
  go_wp2
  go_ret
  exact ⟨rfl, h4⟩

end Go.Proofs.YtikdbpphbdbdnaaGreat
