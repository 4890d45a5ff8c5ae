/- One step of a script of the kinds 4 to 8, whatever it is; settle and looks over a book with boards. -/
import Derived.Test.YtommhbidkoeifaaGreatStepC
import Derived.Test.YtommhbidkoeifaaGreatOpening
namespace Go.Proofs.YtommhbidkoeifaaGreat
open Go.RowKit
set_option linter.unusedVariables false

/-- What is asked of a step: its texts, numbers and inputs can be read. -/
structure OpOk (w : World) (T : Nat → Prop) (o : OpV) : Prop where
  s : o.s.size ≤ maxLen
  t : o.t.size ≤ maxLen
  a0 : -9223372036854775808 ≤ o.a
  a1 : o.a ≤ 9223372036854775807
  b0 : -9223372036854775808 ≤ o.b
  b1 : o.b ≤ 9223372036854775807
  l : IsIns w T o.la o.ll
  ll : o.ll ≤ 1048576

theorem OpOk.kept {S T : Nat → Prop} {w w' : World} {o : OpV} (h : OpOk w T o) (hk : Kept S w w') (hS : ∀ k, T k → ¬ S k) : OpOk w' T o := { h with l := h.l.kept hk hS }

theorem stepB_any {B : PB} (hB : PBok B) {cy g base : Nat} {vb : Value} {es : List (Ent B)} {w : World} (h : Tab B cy g base vb es w) (o : OpV) (ho : OpOk w (Old g base) o) (hk4 : 4 ≤ o.k) (hk8 : o.k ≤ 8) (hcy : cy + 1048576 < 1152921504606846976) (h63 : es.length + 1 ≤ maxLen) (hby : (es.length + 1) * 16 ≤ 140737488355328) :
    Calls Tryz.prog 7 #[.pointer (some ⟨g, 0, none⟩), .agg #[.int .i64 o.k, .int .i64 o.a, .int .i64 o.b, .string o.s, .string o.t, .int .i64 o.p, .int .i64 o.q, .slice o.la o.ll o.lc]] w fun e w' => e = .returned (.bool true) ∧ Left B (cy + 1048576) g base es w w' := by
  obtain ⟨k, a, b, s, t, p, q, la, ll, lc⟩ := o
  obtain ⟨hs, ht, a0, a1, b0, b1, hl, hl20⟩ := ho
  have hll : ll ≤ maxLen := by have h1 : ll ≤ 1048576 := hl20; unfold maxLen; omega
  have hmax : es.length ≤ maxLen := by omega
  have hk : k = 4 ∨ k = 5 ∨ k = 6 ∨ k = 7 ∨ k = 8 := by
    have h1 : 4 ≤ k := hk4
    have h2 : k ≤ 8 := hk8
    omega
  by_cases h0 : es.length = 0
  · rcases hk with rfl | rfl | rfl | rfl | rfl
    · exact step_new hB h a b p q s t la ll lc hs ht hcy h63 hby
    · exact step_made hB h a b p q s t la ll lc hcy h63 hby
    · exact step_none hB h hcy h0 6 a b p q s t la ll lc (by omega)
    · exact step_none hB h hcy h0 7 a b p q s t la ll lc (by omega)
    · exact step_none hB h hcy h0 8 a b p q s t la ll lc (by omega)
  · have h0' : 0 < es.length := by omega
    rcases hk with rfl | rfl | rfl | rfl | rfl
    · exact step_new hB h a b p q s t la ll lc hs ht hcy h63 hby
    · exact step_made hB h a b p q s t la ll lc hcy h63 hby
    · exact step_steps6 hB h hcy h0' hmax a b p q s t la ll lc a0 a1 hl hll hl20
    · by_cases hz : ll = 0
      · exact step_for7n hB h hcy h0' hmax a b p q s t la ll lc a0 a1 b0 b1 hz
      · exact step_for7s hB h hcy h0' hmax a b p q s t la ll lc a0 a1 hl hll b0 b1 (by omega)
    · exact step_tell8 hB h hcy h0' hmax a b p q s t la ll lc a0 a1

/-- A cell of the book that is nil is written nil. -/
theorem Tab.setNil {B : PB} (hB : PBok B) {cy g base : Nat} {vb : Value} {es : List (Ent B)} {w : World} (h : Tab B cy g base vb es w) (j : Nat) (h2 : 2 ≤ j) (h6 : j < 6) : Tab B cy g base vb es (w.setCell ⟨g, j, none⟩ (.slice none 0 0)) := by
  have hk : Kept (fun k => k = g) w (w.setCell ⟨g, j, none⟩ (.slice none 0 0)) := (Kept.refl (fun k => k = g) w).setCell (b := g) (Or.inl rfl) _
  have hown : ∀ (i : Nat) (e : Ent B), es[i]? = some e → ∀ k, bothOwn B e.L e.l k → ¬ k = g := fun i e he k hk2 x => by
    have := (h.own i e he k hk2).1
    have := h.gb
    omega
  refine ⟨h.gb, Nat.le_trans h.bs hk.size, ?_, fun i hi => by rw [World.frozen?_setCell]; exact h.fz i hi, fun i i2 i6 => ?_, ?_, fun i e he => (h.each i e he).kept hB hk (hown i e he), h.own, h.apart⟩
  · rw [World.cell?_setCell_other _ _ _ _ (by intro x; have := congrArg Addr.off x; simp at this; omega)]
    exact h.c0
  · by_cases e : i = j
    · subst e
      exact World.cell?_setCell_same _ _ _ (h.cn i i2 i6)
    · rw [World.cell?_setCell_other _ _ _ _ (by intro x; exact e (congrArg Addr.off x).symm)]
      exact h.cn i i2 i6
  · refine ownsRow_same h.row (fun k hk2 => Below.heap_setCell _ _ _ _ (fun x => ?_))
    have := (row_block h.row hk2).1
    have := h.gb
    have : k = g := x
    omega

set_option maxHeartbeats 400000 in
theorem settle_book {B : PB} (hB : PBok B) {cy g base : Nat} {vb : Value} {es : List (Ent B)} {w : World} (h : Tab B cy g base vb es w) :
    Calls Tryz.prog 8 #[.pointer (some ⟨g, 0, none⟩)] w fun e w' => e = .returned (.bool true) ∧ Tab B cy g base vb es w' ∧ Kept (fun k => k = g ∨ base ≤ k) w w' := by
  have c2 := h.cn 2 (by omega) (by omega)
  have c3 := h.cn 3 (by omega) (by omega)
  have f2 := h.fz 2 (by omega)
  have f3 := h.fz 3 (by omega)
  go_enter Tryz.func8, Tryz.ntmps8
  go_wp2
  go_loop [3, 4] (fun ok i => ok = .bool true ∧ i = .int .i64 0) (fun _ _ => 0)
  case atStart => exact ⟨rfl, rfl⟩
  case round =>
    obtain ⟨rfl, rfl⟩ := hrel
    go_wp2
    go_loop [6] (fun i => i = .int .i64 0) (fun _ => 0)
    case atStart => exact rfl
    case round =>
      subst hrel
      go_wp2
      go_ret
      exact ⟨rfl, (h.setNil hB 2 (by omega) (by omega)).setNil hB 3 (by omega) (by omega), ((Kept.refl _ w).setCell (Or.inl (Or.inl rfl)) _).setCell (Or.inl (Or.inl rfl)) _⟩

set_option maxHeartbeats 400000 in
theorem looks_book {B : PB} {cy g base : Nat} {vb : Value} {es : List (Ent B)} {w : World} (h : Tab B cy g base vb es w) :
    Calls Tryz.prog 9 #[.pointer (some ⟨g, 0, none⟩)] w fun e w' => e = .returned (.bool true) ∧ w' = w := by
  have c4 := h.cn 4 (by omega) (by omega)
  have c5 := h.cn 5 (by omega) (by omega)
  go_enter Tryz.func9, Tryz.ntmps9
  go_wp2
  go_loop [3] (fun i => i = .int .i64 0) (fun _ => 0)
  case atStart => exact rfl
  case round =>
    subst hrel
    go_wp2
    go_loop [9] (fun i => i = .int .i64 0) (fun _ => 0)
    case atStart => exact rfl
    case round =>
      subst hrel
      go_wp2
      go_ret
      exact ⟨rfl, rfl⟩

end Go.Proofs.YtommhbidkoeifaaGreat
