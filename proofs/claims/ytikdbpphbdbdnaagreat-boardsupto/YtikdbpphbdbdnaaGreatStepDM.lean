/- One step of a script, of whatever kind. -/
import Derived.Test.YtikdbpphbdbdnaaGreatStepEM
import Derived.Test.YtikdbpphbdbdnaaGreatId
namespace Go.Proofs.YtikdbpphbdbdnaaGreat
open Go.RowKit
set_option linter.unusedVariables false

/-- What is asked of a step: its texts, numbers and inputs can be read. -/
structure OpOk (w : World) (T : Nat → Prop) (o : OpV) : Prop where
  s : o.s.size ≤ maxLen
  t : o.t.size ≤ maxLen
  a0 : -9223372036854775808 ≤ o.a
  a1 : o.a ≤ 9223372036854775807
  b0 : -9223372036854775808 ≤ o.b
  b1 : o.b ≤ 9223372036854775807
  l : IsIns w T o.la o.ll
  ll : o.ll ≤ 1048576
  nil : o.la = none → o.ll = 0

theorem OpOk.kept {S T : Nat → Prop} {w w' : World} {o : OpV} (h : OpOk w T o) (hk : Kept S w w') (hS : ∀ k, T k → ¬ S k) : OpOk w' T o := { h with l := h.l.kept hk hS }

theorem stepM_any {B : PB} (hB : PBok B) (hMo : PBmore B) {cy g base : Nat} {vb : Value} {es : List (Ent B)} {w : World} (h : Tab B cy g base vb es w) (o : OpV) (ho : OpOk w (Old g base) o) (hk1 : 1 ≤ o.k) (hk11 : o.k ≤ 11) (hcy : cy ≤ 2199023255552) (h63 : es.length + 1 ≤ maxLen) (hby : (es.length + 1) * 16 ≤ 140737488355328) :
    Calls Tryz.prog 9 #[.pointer (some ⟨g, 0, none⟩), .agg #[.int .i64 o.k, .int .i64 o.a, .int .i64 o.b, .string o.s, .string o.t, .int .i64 o.p, .int .i64 o.q, .slice o.la o.ll o.lc]] w fun e w' => e = .returned (.bool true) ∧ Left B (cy + 1048576) g base es w w' := by
  obtain ⟨k, a, b, s, t, p, q, la, ll, lc⟩ := o
  obtain ⟨hs, ht, a0, a1, b0, b1, hl, hl20, hnil⟩ := ho
  have hst := hcy
  have hcy : cy + 1048576 < 1152921504606846976 := Nat.lt_of_le_of_lt (Nat.add_le_add_right hst 1048576) (by decide)
  have hll : ll ≤ maxLen := Nat.le_trans (show ll ≤ 1048576 from hl20) (by decide)
  have hmax : es.length ≤ maxLen := Nat.le_trans (Nat.le_add_right _ _) h63
  by_cases hk3 : k ≤ 3
  · refine (step_images k a b p q s t (.slice la ll lc) (.pointer (some ⟨g, 0, none⟩)) w hs ht hk1 hk3).mono fun e w' ⟨he, hb⟩ => ⟨he, vb, es, ?_, Nat.le_add_right _ _, ?_⟩
    · exact (h.quiet hB ⟨hb.os, hb.tape, hb.output, hb.size, fun k hk _ => hb.block k hk⟩).later hB (Nat.le_add_right _ _)
    · exact ⟨hb.os, hb.tape, hb.output, hb.size, fun k hk _ => hb.block k hk⟩
  have hk : k = 4 ∨ k = 5 ∨ k = 6 ∨ k = 7 ∨ k = 8 ∨ k = 9 ∨ k = 10 ∨ k = 11 := by
    have h2 : k ≤ 11 := hk11
    clear hcy hst hll hmax hby h63 hl20
    omega
  by_cases h0 : es.length = 0
  · rcases hk with rfl | rfl | rfl | rfl | rfl | rfl | rfl | rfl
    · exact step_new hB h a b p q s t la ll lc hs ht hcy h63 hby
    · exact step_made hB h a b p q s t la ll lc hcy h63 hby
    · exact step_none hB h hcy h0 6 a b p q s t la ll lc (by decide)
    · exact step_none hB h hcy h0 7 a b p q s t la ll lc (by decide)
    · exact step_none hB h hcy h0 8 a b p q s t la ll lc (by decide)
    · exact step_none hB h hcy h0 9 a b p q s t la ll lc (by decide)
    · exact step_none hB h hcy h0 10 a b p q s t la ll lc (by decide)
    · exact step_none hB h hcy h0 11 a b p q s t la ll lc (by decide)
  · have h0' : 0 < es.length := Nat.pos_of_ne_zero h0
    rcases hk with rfl | rfl | rfl | rfl | rfl | rfl | rfl | rfl
    · exact step_new hB h a b p q s t la ll lc hs ht hcy h63 hby
    · exact step_made hB h a b p q s t la ll lc hcy h63 hby
    · exact step_steps6 hB h hcy h0' hmax a b p q s t la ll lc a0 a1 hl hll hl20
    · by_cases hz : ll = 0
      · exact step_for7n hB h hcy h0' hmax a b p q s t la ll lc a0 a1 b0 b1 hz
      · exact step_for7s hB h hcy h0' hmax a b p q s t la ll lc a0 a1 hl hll b0 b1 (Nat.pos_of_ne_zero hz)
    · exact step_tell8 hB h hcy h0' hmax a b p q s t la ll lc a0 a1
    · exact step_run9 hB hMo h hcy h0' hmax a b p q s t la ll lc a0 a1 hnil hl hl20 hst
    · exact step_image10 hB hMo h hcy h0' hmax a b p q s t la ll lc a0 a1
    · exact step_peek11 hB hMo h hcy h0' hmax a b p q s t la ll lc a0 a1

end Go.Proofs.YtikdbpphbdbdnaaGreat
