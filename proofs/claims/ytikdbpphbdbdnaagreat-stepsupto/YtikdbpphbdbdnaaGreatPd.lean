/- Of several texts, one behind the other. -/
import Derived.Test.YtikdbpphbdbdnaaGreatPc
import Derived.Test.YtikdbpphbdbdnaaGreatId
/- One step of a script of the kinds 4 to 8, whatever it is; settle and looks over a book with boards. -/
namespace Go.Proofs.YtikdbpphbdbdnaaGreat
open Go.RowKit
set_option linter.unusedVariables false

/-- What is asked of a step: its texts, numbers and inputs can be read. -/
structure OpOk (w : World) (T : Nat → Prop) (o : OpV) : Prop where
  s : o.s.size ≤ maxLen
  t : o.t.size ≤ maxLen
  a0 : -9223372036854775808 ≤ o.a
  a1 : o.a ≤ 9223372036854775807
  b0 : -9223372036854775808 ≤ o.b
  b1 : o.b ≤ 9223372036854775807
  l : IsIns w T o.la o.ll
  ll : o.ll ≤ 1048576

theorem OpOk.kept {S T : Nat → Prop} {w w' : World} {o : OpV} (h : OpOk w T o) (hk : Kept S w w') (hS : ∀ k, T k → ¬ S k) : OpOk w' T o := { h with l := h.l.kept hk hS }

theorem stepB_any {B : PB} (hB : PBok B) {cy g base : Nat} {vb : Value} {es : List (Ent B)} {w : World} (h : Tab B cy g base vb es w) (o : OpV) (ho : OpOk w (Old g base) o) (hk4 : 4 ≤ o.k) (hk8 : o.k ≤ 8) (hcy : cy + 1048576 < 1152921504606846976) (h63 : es.length + 1 ≤ maxLen) (hby : (es.length + 1) * 16 ≤ 140737488355328) :
    Calls Tryz.prog 9 #[.pointer (some ⟨g, 0, none⟩), .agg #[.int .i64 o.k, .int .i64 o.a, .int .i64 o.b, .string o.s, .string o.t, .int .i64 o.p, .int .i64 o.q, .slice o.la o.ll o.lc]] w fun e w' => e = .returned (.bool true) ∧ Left B (cy + 1048576) g base es w w' := by
  obtain ⟨k, a, b, s, t, p, q, la, ll, lc⟩ := o
  obtain ⟨hs, ht, a0, a1, b0, b1, hl, hl20⟩ := ho
  have hll : ll ≤ maxLen := by have h1 : ll ≤ 1048576 := hl20; unfold maxLen; omega
  have hmax : es.length ≤ maxLen := by omega
  have hk : k = 4 ∨ k = 5 ∨ k = 6 ∨ k = 7 ∨ k = 8 := by
    have h1 : 4 ≤ k := hk4
    have h2 : k ≤ 8 := hk8
    omega
  by_cases h0 : es.length = 0
  · rcases hk with rfl | rfl | rfl | rfl | rfl
    · exact step_new hB h a b p q s t la ll lc hs ht hcy h63 hby
    · exact step_made hB h a b p q s t la ll lc hcy h63 hby
    · exact step_none hB h hcy h0 6 a b p q s t la ll lc (by omega)
    · exact step_none hB h hcy h0 7 a b p q s t la ll lc (by omega)
    · exact step_none hB h hcy h0 8 a b p q s t la ll lc (by omega)
  · have h0' : 0 < es.length := by omega
    rcases hk with rfl | rfl | rfl | rfl | rfl
    · exact step_new hB h a b p q s t la ll lc hs ht hcy h63 hby
    · exact step_made hB h a b p q s t la ll lc hcy h63 hby
    · exact step_steps6 hB h hcy h0' hmax a b p q s t la ll lc a0 a1 hl hll hl20
    · by_cases hz : ll = 0
      · exact step_for7n hB h hcy h0' hmax a b p q s t la ll lc a0 a1 b0 b1 hz
      · exact step_for7s hB h hcy h0' hmax a b p q s t la ll lc a0 a1 hl hll b0 b1 (by omega)
    · exact step_tell8 hB h hcy h0' hmax a b p q s t la ll lc a0 a1

/-- A cell of the book that is nil is written nil. -/
theorem Tab.setNil {B : PB} (hB : PBok B) {cy g base : Nat} {vb : Value} {es : List (Ent B)} {w : World} (h : Tab B cy g base vb es w) (j : Nat) (h2 : 2 ≤ j) (h6 : j < 6) : Tab B cy g base vb es (w.setCell ⟨g, j, none⟩ (.slice none 0 0)) := by
  have hk : Kept (fun k => k = g) w (w.setCell ⟨g, j, none⟩ (.slice none 0 0)) := (Kept.refl (fun k => k = g) w).setCell (b := g) (Or.inl rfl) _
  have hown : ∀ (i : Nat) (e : Ent B), es[i]? = some e → ∀ k, bothOwn B e.L e.l k → ¬ k = g := fun i e he k hk2 x => by
    have := (h.own i e he k hk2).1
    have := h.gb
    omega
  refine ⟨h.gb, Nat.le_trans h.bs hk.size, ?_, fun i hi => by rw [World.frozen?_setCell]; exact h.fz i hi, fun i i2 i6 => ?_, ?_, fun i e he => (h.each i e he).kept hB hk (hown i e he), h.own, h.apart⟩
  · rw [World.cell?_setCell_other _ _ _ _ (by intro x; have := congrArg Addr.off x; simp at this; omega)]
    exact h.c0
  · by_cases e : i = j
    · subst e
      exact World.cell?_setCell_same _ _ _ (h.cn i i2 i6)
    · rw [World.cell?_setCell_other _ _ _ _ (by intro x; exact e (congrArg Addr.off x).symm)]
      exact h.cn i i2 i6
  · refine ownsRow_same h.row (fun k hk2 => Below.heap_setCell _ _ _ _ (fun x => ?_))
    have := (row_block h.row hk2).1
    have := h.gb
    have : k = g := x
    omega

set_option maxHeartbeats 400000 in
theorem settle_book {B : PB} (hB : PBok B) {cy g base : Nat} {vb : Value} {es : List (Ent B)} {w : World} (h : Tab B cy g base vb es w) :
    Calls Tryz.prog 10 #[.pointer (some ⟨g, 0, none⟩)] w fun e w' => e = .returned (.bool true) ∧ Tab B cy g base vb es w' ∧ Kept (fun k => k = g ∨ base ≤ k) w w' := by
  have c2 := h.cn 2 (by omega) (by omega)
  have c3 := h.cn 3 (by omega) (by omega)
  have f2 := h.fz 2 (by omega)
  have f3 := h.fz 3 (by omega)
  go_enter Tryz.func10, Tryz.ntmps10
  go_wp2
  go_loop [3, 4] (fun ok i => ok = .bool true ∧ i = .int .i64 0) (fun _ _ => 0)
  case atStart => exact ⟨rfl, rfl⟩
  case round =>
    obtain ⟨rfl, rfl⟩ := hrel
    go_wp2
    go_loop [6] (fun i => i = .int .i64 0) (fun _ => 0)
    case atStart => exact rfl
    case round =>
      subst hrel
      go_wp2
      go_ret
      exact ⟨rfl, (h.setNil hB 2 (by omega) (by omega)).setNil hB 3 (by omega) (by omega), ((Kept.refl _ w).setCell (Or.inl (Or.inl rfl)) _).setCell (Or.inl (Or.inl rfl)) _⟩

set_option maxHeartbeats 400000 in
theorem looks_book {B : PB} {cy g base : Nat} {vb : Value} {es : List (Ent B)} {w : World} (h : Tab B cy g base vb es w) :
    Calls Tryz.prog 11 #[.pointer (some ⟨g, 0, none⟩)] w fun e w' => e = .returned (.bool true) ∧ w' = w := by
  have c4 := h.cn 4 (by omega) (by omega)
  have c5 := h.cn 5 (by omega) (by omega)
  go_enter Tryz.func11, Tryz.ntmps11
  go_wp2
  go_loop [3] (fun i => i = .int .i64 0) (fun _ => 0)
  case atStart => exact rfl
  case round =>
    subst hrel
    go_wp2
    go_loop [9] (fun i => i = .int .i64 0) (fun _ => 0)
    case atStart => exact rfl
    case round =>
      subst hrel
      go_wp2
      go_ret
      exact ⟨rfl, rfl⟩

end Go.Proofs.YtikdbpphbdbdnaaGreat

/- The opening's list of steps with its inputs; a script of the kinds 4 to 8, played to its end. -/
namespace Go.Proofs.YtikdbpphbdbdnaaGreat
open Go.RowKit
set_option linter.unusedVariables false

set_option maxRecDepth 100000 in
set_option maxHeartbeats 1000000 in
theorem opening_all (w : World) :
    Calls Tryz.prog 8 #[] w fun e w' => e = .returned (.slice (some ⟨w.heap.size + 3, 0, none⟩) 12 12) ∧ Below w.heap.size w w' ∧ w'.heap[w.heap.size + 3]? = some (.cells ((openingOps (w.heap.size + 1)).flatMap OpV.cells).toArray 36) ∧
      w'.heap[w.heap.size + 1]? = some (.cells #[.bool false, .int .i64 5000, .int .u8 7, .bool false, .int .i64 5000, .int .u8 7, .bool false, .int .i64 5000, .int .u8 7, .bool false, .int .i64 5000, .int .u8 7, .bool false, .int .i64 5000, .int .u8 7, .bool false, .int .i64 5000, .int .u8 7, .bool false, .int .i64 5000, .int .u8 7, .bool false, .int .i64 5000, .int .u8 7, .bool false, .int .i64 5000, .int .u8 7, .bool false, .int .i64 5000, .int .u8 7] 40) ∧ w'.heap[w.heap.size + 2]? = some (.cells #[.bool false, .int .i64 5000, .int .u8 7, .bool false, .int .i64 5000, .int .u8 7] 40) := by
  go_enter Tryz.func8, Tryz.ntmps8
  go_wp2
  go_ret
  have hs1 : ∀ (a : Obj), (w.alloc a).heap.size = w.heap.size + 1 := fun a => by simp
  have hs2 : ∀ (a b : Obj), ((w.alloc a).alloc b).heap.size = w.heap.size + 1 + 1 := fun a b => by simp
  have hs : ∀ (a b c : Obj), ((((w.alloc a).alloc b).alloc c)).heap.size = w.heap.size + 1 + 1 + 1 := fun a b c => by simp
  refine ⟨rfl, ?_, ?_, ?_, ?_⟩
  · exact ((((Below.refl _ w).alloc (Nat.le_refl _) _).alloc (by simp) _).alloc (by simp; omega) _).alloc (by simp; omega) _
  · rw [show w.heap.size + 3 = w.heap.size + 1 + 1 + 1 from rfl, ← hs _ _ _, heap_new]
    rfl
  · rw [Below.heap_alloc _ _ _ (by rw [hs]; omega), Below.heap_alloc _ _ _ (by rw [hs2]; omega), ← hs1 _, heap_new]
  · rw [Below.heap_alloc _ _ _ (by rw [hs]; omega), show w.heap.size + 2 = w.heap.size + 1 + 1 from rfl, ← hs2 _ _, heap_new]

/-- A list of steps with all that they lead to, in blocks of T. -/
def OpsIn (w : World) (T : Nat → Prop) (b off n : Nat) (os : Nat → OpV) : Prop :=
  T b ∧ b < w.heap.size ∧ ∀ i, i < n → OpOk w T (os i) ∧ ∀ j v, (os i).cells[j]? = some v → w.cell? ⟨b, off + i * 8 + j, none⟩ = some v

theorem OpsIn.kept {S T : Nat → Prop} {w w' : World} {b off n : Nat} {os : Nat → OpV} (h : OpsIn w T b off n os) (hk : Kept S w w') (hS : ∀ k, T k → ¬ S k) : OpsIn w' T b off n os :=
  ⟨h.1, Nat.lt_of_lt_of_le h.2.1 hk.size, fun i hi => ⟨(h.2.2 i hi).1.kept hk hS, fun j v hj => by rw [hk.cell h.2.1 (hS b h.1)]; exact (h.2.2 i hi).2 j v hj⟩⟩

theorem IsIns.mono {T T' : Nat → Prop} {w : World} {la : Option Addr} {ll : Nat} (h : IsIns w T la ll) (hT : ∀ k, T k → T' k) : IsIns w T' la ll := by
  rcases h with x | ⟨b1, off1, ha, hb, hc⟩
  · exact Or.inl x
  · exact Or.inr ⟨b1, off1, ha, hT b1 hb, hc⟩

theorem OpsIn.mono {T T' : Nat → Prop} {w : World} {b off n : Nat} {os : Nat → OpV} (h : OpsIn w T b off n os) (hT : ∀ k, T k → T' k) : OpsIn w T' b off n os :=
  ⟨hT b h.1, h.2.1, fun i hi => ⟨{ (h.2.2 i hi).1 with l := (h.2.2 i hi).1.l.mono hT }, (h.2.2 i hi).2⟩⟩

theorem OpsIn.at {T : Nat → Prop} {w : World} {b off n : Nat} {os : Nat → OpV} (h : OpsIn w T b off n os) (i : Nat) (hi : i < n) :
    w.cell? ⟨b, off + i * 8, none⟩ = some (.int .i64 (os i).k) ∧ w.cell? ⟨b, off + i * 8 + 1, none⟩ = some (.int .i64 (os i).a) ∧ w.cell? ⟨b, off + i * 8 + 2, none⟩ = some (.int .i64 (os i).b) ∧
    w.cell? ⟨b, off + i * 8 + 3, none⟩ = some (.string (os i).s) ∧ w.cell? ⟨b, off + i * 8 + 4, none⟩ = some (.string (os i).t) ∧ w.cell? ⟨b, off + i * 8 + 5, none⟩ = some (.int .i64 (os i).p) ∧
    w.cell? ⟨b, off + i * 8 + 6, none⟩ = some (.int .i64 (os i).q) ∧ w.cell? ⟨b, off + i * 8 + 7, none⟩ = some (.slice (os i).la (os i).ll (os i).lc) := by
  have hc := (h.2.2 i hi).2
  exact ⟨hc 0 _ rfl, hc 1 _ rfl, hc 2 _ rfl, hc 3 _ rfl, hc 4 _ rfl, hc 5 _ rfl, hc 6 _ rfl, hc 7 _ rfl⟩

theorem ins_row (w : World) (T : Nat → Prop) (b m : Nat) (cs : Array Value) (h : w.heap[b]? = some (.cells cs 40)) (hT : T b) (hc : ∀ i, i < m → cs[i * 3]? = some (.bool false) ∧ cs[i * 3 + 1]? = some (.int .i64 5000) ∧ cs[i * 3 + 2]? = some (.int .u8 7)) : IsIns w T (some ⟨b, 0, none⟩) m :=
  Or.inr ⟨b, 0, rfl, hT, (Array.getElem?_eq_some_iff.1 h).1, fun i hi => ⟨false, 5000, 7, by omega, by omega, by rw [Nat.zero_add, cell_in h]; exact (hc i hi).1, by rw [Nat.zero_add, cell_in h]; exact (hc i hi).2.1, by rw [Nat.zero_add, cell_in h]; exact (hc i hi).2.2⟩⟩

theorem opening_in (w : World) (T : Nat → Prop) (g : Nat) (hT : T (g + 2) ∧ T g ∧ T (g + 1)) (hh : w.heap[g + 2]? = some (.cells ((openingOps g).flatMap OpV.cells).toArray 36)) (h1 : w.heap[g]? = some (.cells #[.bool false, .int .i64 5000, .int .u8 7, .bool false, .int .i64 5000, .int .u8 7, .bool false, .int .i64 5000, .int .u8 7, .bool false, .int .i64 5000, .int .u8 7, .bool false, .int .i64 5000, .int .u8 7, .bool false, .int .i64 5000, .int .u8 7, .bool false, .int .i64 5000, .int .u8 7, .bool false, .int .i64 5000, .int .u8 7, .bool false, .int .i64 5000, .int .u8 7, .bool false, .int .i64 5000, .int .u8 7] 40)) (h2 : w.heap[g + 1]? = some (.cells #[.bool false, .int .i64 5000, .int .u8 7, .bool false, .int .i64 5000, .int .u8 7] 40)) : OpsIn w T (g + 2) 0 12 (opening g) := by
  have hops := opening_ops w g (g + 2) hh
  have l10 : IsIns w T (some ⟨g, 0, none⟩) 10 := ins_row w T g 10 _ h1 hT.2.1 (fun i hi => by
    have : i = 0 ∨ i = 1 ∨ i = 2 ∨ i = 3 ∨ i = 4 ∨ i = 5 ∨ i = 6 ∨ i = 7 ∨ i = 8 ∨ i = 9 := by omega
    rcases this with rfl | rfl | rfl | rfl | rfl | rfl | rfl | rfl | rfl | rfl <;> exact ⟨rfl, rfl, rfl⟩)
  have l2 : IsIns w T (some ⟨g + 1, 0, none⟩) 2 := ins_row w T (g + 1) 2 _ h2 hT.2.2 (fun i hi => by
    have : i = 0 ∨ i = 1 := by omega
    rcases this with rfl | rfl <;> exact ⟨rfl, rfl, rfl⟩)
  refine ⟨hT.1, (Array.getElem?_eq_some_iff.1 hh).1, fun i hi => ⟨?_, (hops i hi).2.2⟩⟩
  have hz : IsIns w T none 0 := Or.inl rfl
  have : i = 0 ∨ i = 1 ∨ i = 2 ∨ i = 3 ∨ i = 4 ∨ i = 5 ∨ i = 6 ∨ i = 7 ∨ i = 8 ∨ i = 9 ∨ i = 10 ∨ i = 11 := by omega
  have hs := (hops i hi).1
  have ht := (hops i hi).2.1
  have m10 : 10 ≤ 1048576 := by omega
  have m2 : 2 ≤ 1048576 := by omega
  rcases this with rfl | rfl | rfl | rfl | rfl | rfl | rfl | rfl | rfl | rfl | rfl | rfl
  all_goals
    refine ⟨hs, ht, ?_, ?_, ?_, ?_, ?_, ?_⟩
    · exact of_decide_eq_true rfl
    · exact of_decide_eq_true rfl
    · exact of_decide_eq_true rfl
    · exact of_decide_eq_true rfl
    · first | exact hz | exact l10 | exact l2
    · first | exact Nat.zero_le _ | exact m10 | exact m2

end Go.Proofs.YtikdbpphbdbdnaaGreat

/- A script of the kinds 4 to 8, over whatever board the program has: played to its end, true. -/
namespace Go.Proofs.YtikdbpphbdbdnaaGreat
open Go.RowKit
set_option linter.unusedVariables false

theorem tab_start {B : PB} (w w2 : World) (h2 : Below (w.alloc (.cells #[.slice none 0 0, .int .i64 0, .slice none 0 0, .slice none 0 0, .slice none 0 0, .slice none 0 0] 31)).heap.size (w.alloc (.cells #[.slice none 0 0, .int .i64 0, .slice none 0 0, .slice none 0 0, .slice none 0 0, .slice none 0 0] 31)) w2) (hlt : w.heap.size < w2.heap.size) : Tab B 0 w.heap.size w2.heap.size (.slice none 0 0) [] w2 := by
  have hh : w2.heap[w.heap.size]? = some (.cells #[.slice none 0 0, .int .i64 0, .slice none 0 0, .slice none 0 0, .slice none 0 0, .slice none 0 0] 31) := by rw [h2.block w.heap.size (by simp), heap_new]
  refine ⟨hlt, Nat.le_refl _, by rw [cell_in hh]; rfl, fun j hj => by simp [World.frozen?, hh], fun j j2 j6 => ?_, ⟨rfl, Or.inl ⟨rfl, rfl⟩⟩, fun i e he => (by cases he), fun i e he => (by cases he), fun i j e e' _ he => (by cases he)⟩
  rw [cell_in hh]
  have : j = 2 ∨ j = 3 ∨ j = 4 ∨ j = 5 := by omega
  rcases this with rfl | rfl | rfl | rfl <;> rfl

set_option maxRecDepth 100000 in
set_option maxHeartbeats 2000000 in
theorem plays_steps {B : PB} (hB : PBok B) (a : Option Addr) (n cap : Nat) (w : World) (os : Nat → OpV) (hn : n ≤ 1048576) (ha : n = 0 ∨ ∃ b off, a = some ⟨b, off, none⟩ ∧ OpsIn w (fun k => k < w.heap.size) b off n os) :
    Calls Tryz.prog 7 #[.slice a n cap, .int .i64 4, .int .i64 8] w fun e w' => e = .returned (.bool true) ∧ Below w.heap.size w w' := by
  go_enter Tryz.func7, Tryz.ntmps7
  go_wp2_with fail
  refine (opening_all _).mono ?_
  rintro e w2 ⟨rfl, h2, hh, hi1, hi2⟩
  have hz : (w.alloc (.cells #[.slice none 0 0, .int .i64 0, .slice none 0 0, .slice none 0 0, .slice none 0 0, .slice none 0 0] 31)).heap.size = w.heap.size + 1 := by simp
  have k2 : Below w.heap.size w w2 := ((Below.refl _ w).alloc (Nat.le_refl _) _).trans (h2.mono (by simp))
  rw [hz] at hh hi1 hi2 ⊢
  have lt2 : w.heap.size + 1 + 3 < w2.heap.size := (Array.getElem?_eq_some_iff.1 hh).1
  have tab0 : Tab B 0 w.heap.size w2.heap.size (.slice none 0 0) [] w2 := tab_start w w2 h2 (by omega)
  have o2 : OpsIn w2 (Old w.heap.size w2.heap.size) (w.heap.size + 1 + 3) 0 12 (opening (w.heap.size + 1 + 1)) := opening_in w2 _ (w.heap.size + 1 + 1) ⟨⟨by omega, by omega⟩, ⟨by omega, by omega⟩, ⟨by omega, by omega⟩⟩ hh hi1 hi2
  have os2 : n = 0 ∨ ∃ b off, a = some ⟨b, off, none⟩ ∧ OpsIn w2 (Old w.heap.size w2.heap.size) b off n os := by
    rcases ha with ha | ⟨b, off, hab, hops⟩
    · exact Or.inl ha
    · refine Or.inr ⟨b, off, hab, OpsIn.mono (hops.kept (S := fun k => w.heap.size ≤ k) ⟨k2.os, k2.tape, k2.output, k2.size, fun k hk _ => k2.block k hk⟩ (fun k hk x => by omega)) (fun k hk => ⟨by omega, by omega⟩)⟩
  have hOld : ∀ k, Old w.heap.size w2.heap.size k → ¬ (k = w.heap.size ∨ w2.heap.size ≤ k) := fun k hk x => by
    rcases x with x | x
    · exact hk.2 x
    · have := hk.1; omega
  clear hh hi1 hi2 h2 ha hz
  generalize opening (w.heap.size + 1 + 1) = hs at o2
  generalize hH : w.heap.size + 1 + 3 = h at o2 lt2 ⊢
  clear hH
  obtain ⟨G, hG⟩ : ∃ G, G = w.heap.size := ⟨_, rfl⟩
  obtain ⟨BA, hBA⟩ : ∃ BA, BA = w2.heap.size := ⟨_, rfl⟩
  have hBG : G < BA := by have := tab0.gb; omega
  go_wp2
  go_loopw [9] (fun i wr => ∃ (k : Nat) (vb : Value) (es : List (Ent B)), k ≤ 12 ∧ i = .int .i64 k ∧ Tab B (k * 1048576) w.heap.size w2.heap.size vb es wr ∧ es.length ≤ k ∧ Kept (fun k => k = w.heap.size ∨ w2.heap.size ≤ k) w2 wr) (fun i _ => 12 - (intOf i).toNat)
  case atStart => exact ⟨0, _, [], by omega, rfl, by rw [Nat.zero_mul]; exact tab0, by simp, Kept.refl _ _⟩
  case round =>
    obtain ⟨k, vb, es, hk, rfl, tx, hes, kx⟩ := hrel
    have ox := o2.kept kx hOld
    by_cases hlt : k < 12
    · obtain ⟨c0, c1, c2, c3, c4, c5, c6, c7⟩ := ox.at k hlt
      have hok := (ox.2.2 k hlt).1
      rw [Nat.zero_add] at c0 c1 c2 c3 c4 c5 c6 c7
      have hlt' : (k : Int) < 12 := by omega
      by_cases h4 : 4 ≤ (hs k).k
      · by_cases h8 : (hs k).k ≤ 8
        · go_wp2_with fail
          refine (stepB_any hB tx (hs k) hok h4 h8 (by omega) (by unfold maxLen; omega) (by omega)).mono ?_
          rintro e w3 ⟨rfl, vb', es', t3, l3, k3⟩
          have t3 := t3.later hB (m := (k + 1) * 1048576) (by omega)
          have k3' := kx.trans k3
          go_wp2
          go_roundw
          case rel => exact ⟨k + 1, vb', es', by omega, by go_num, t3, by omega, k3'⟩
          case measure => simp [intOf]; omega
        · go_wp2
          go_roundw
          case rel => exact ⟨k + 1, vb, es, by omega, by go_num, tx.later hB (by omega), by omega, kx⟩
          case measure => simp [intOf]; omega
      · go_wp2
        go_roundw
        case rel => exact ⟨k + 1, vb, es, by omega, by go_num, tx.later hB (by omega), by omega, kx⟩
        case measure => simp [intOf]; omega
    · have hge : ¬ (k : Int) < 12 := by omega
      have hes12 : es.length ≤ 12 := by omega
      clear ox tab0 o2 hlt hes
      go_wp2
      obtain ⟨wo, rfl⟩ : ∃ wo : World, wo = wr := ⟨_, rfl⟩
      go_loopw [11] (fun i wx => ∃ (j : Nat) (vb : Value) (es : List (Ent B)), j ≤ n ∧ i = .int .i64 j ∧ Tab B ((12 + j) * 1048576) w.heap.size w2.heap.size vb es wx ∧ es.length ≤ 12 + j ∧ Kept (fun k => k = w.heap.size ∨ w2.heap.size ≤ k) w2 wx) (fun i _ => n - (intOf i).toNat)
      case atStart => exact ⟨0, vb, es, by omega, rfl, tx.later hB (by omega), by omega, kx⟩
      case round =>
        clear tx kx hes12
        obtain ⟨j, vb, es, hj, rfl, ix, hes, kx⟩ := hrel
        have hbel : ∀ W : World, Kept (fun k => k = w.heap.size ∨ w2.heap.size ≤ k) w2 W → Below w.heap.size w W := fun W hW =>
          ⟨hW.os.trans k2.os, hW.tape.trans k2.tape, hW.output.trans k2.output, Nat.le_trans k2.size hW.size, fun q hq => (hW.block q (by omega) (by omega)).trans (k2.block q hq)⟩
        by_cases hjn : j < n ∧ (j : Int) < 1152921504606846976
        · obtain ⟨hjn, h60⟩ := hjn
          have hjn' : (j : Int) < (n : Int) := by omega
          rcases os2 with os2 | ⟨b, off, rfl, ho⟩
          · omega
          · have ox := ho.kept kx hOld
            obtain ⟨c0, c1, c2, c3, c4, c5, c6, c7⟩ := ox.at j hjn
            have hok := fun o => (ox.2.2 j hjn).1.kept (S := fun _ => False) ((Kept.refl _ wr).alloc o) (fun _ _ x => x)
            have tq := fun o => ix.quiet hB ((Kept.refl _ wr).alloc o)
            have kq := fun o => kx.alloc o
            by_cases h4 : 4 ≤ (os j).k
            · by_cases h8 : (os j).k ≤ 8
              · have h4' : ¬ (os j).k < 4 := by omega
                have h8' : ¬ 8 < (os j).k := by omega
                go_wp2_with fail
                refine (stepB_any hB (tq _) (os j) (hok _) h4 h8 (by omega) (by unfold maxLen; omega) (by omega)).mono ?_
                rintro e w3 ⟨rfl, vb', es', t3, l3, k3⟩
                have t3 := t3.later hB (m := (12 + (j + 1)) * 1048576) (by omega)
                have k3' := (kq _).trans k3
                clear k3 hok tq kq ox c0 c1 c2 c3 c4 c5 c6 c7
                by_cases hm : (j : Int) % 3 = 2
                · go_wp2_with fail
                  refine (settle_book hB t3).mono ?_
                  rintro e w4 ⟨rfl, i4, k4⟩
                  have k4' := k3'.trans k4
                  go_wp2_with fail
                  refine (looks_book i4).mono ?_
                  rintro e w5 ⟨rfl, rfl⟩
                  go_wp2
                  exact ⟨⟨j + 1, vb', es', by omega, by go_num, i4, by omega, k4'⟩, by simp [intOf]; omega⟩
                · have hm' : ((j : Int) % 3 == 2) = false := by simpa using hm
                  clear hm
                  go_wp2_with fail
                  refine (looks_book t3).mono ?_
                  rintro e w5 ⟨rfl, rfl⟩
                  go_wp2
                  exact ⟨⟨j + 1, vb', es', by omega, by go_num, t3, by omega, k3'⟩, by simp [intOf]; omega⟩
              · have h4' : ¬ (os j).k < 4 := by omega
                have h8' : 8 < (os j).k := by omega
                go_wp2
                exact ⟨⟨j + 1, vb, es, by omega, by go_num, (tq _).later hB (by omega), by omega, kq _⟩, by simp [intOf]; omega⟩
            · have h4' : (os j).k < 4 := by omega
              go_wp2
              exact ⟨⟨j + 1, vb, es, by omega, by go_num, (tq _).later hB (by omega), by omega, kq _⟩, by simp [intOf]; omega⟩
        · by_cases hjn2 : j < n
          · have h60 : ¬ (j : Int) < 1152921504606846976 := fun x => hjn ⟨hjn2, x⟩
            omega
          · have hjn' : ¬ (j : Int) < (n : Int) := by omega
            clear hjn os2
            go_wp2_with fail
            refine (settle_book hB ix).mono ?_
            rintro e w4 ⟨rfl, i4, k4⟩
            have k4' := hbel _ (kx.trans k4)
            go_wp2_with fail
            refine (looks_book i4).mono ?_
            rintro e w5 ⟨rfl, rfl⟩
            go_wp2
            go_ret
            exact ⟨rfl, k4'⟩

end Go.Proofs.YtikdbpphbdbdnaaGreat
