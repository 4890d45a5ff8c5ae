/- Of several texts, one behind the other. -/
import Derived.Test.YtikdbpphbdbdnaaGreatPb
import Derived.Deep.RegionHeld3
/- The list of pairs of boards: all of them lie apart, each stands alike on both sides. -/
namespace Go.Proofs.YtikdbpphbdbdnaaGreat
open Go.RowKit
set_option linter.unusedVariables false

/-- One pair of boards: where they lie, how they stand. -/
structure Ent (B : PB) where
  L : Lay
  l : B.Lt
  st : St

def entCell (B : PB) (e : Ent B) : List Value := [.pointer (some ⟨B.g e.l, 0, none⟩), .pointer (some ⟨e.L.g, 0, none⟩)]

def entCells (B : PB) (es : List (Ent B)) : List Value := es.flatMap (entCell B)

/-- The caller's book at block g, with its boards; all that it owns lies from base on. -/
structure Tab (B : PB) (n g base : Nat) (vb : Value) (es : List (Ent B)) (w : World) : Prop where
  gb : g < base
  bs : base ≤ w.heap.size
  c0 : w.cell? ⟨g, 0, none⟩ = some vb
  fz : ∀ j, j < 6 → w.frozen? ⟨g, j, none⟩ = false
  cn : ∀ j, 2 ≤ j → j < 6 → w.cell? ⟨g, j, none⟩ = some (.slice none 0 0)
  row : w.ownsRow base 47 2 vb es.length (entCells B es)
  each : ∀ (i : Nat) (e : Ent B), es[i]? = some e → Both B n e.L e.l e.st w
  own : ∀ (i : Nat) (e : Ent B), es[i]? = some e → ∀ k, bothOwn B e.L e.l k → base ≤ k ∧ vb.ownBlock ≠ some k
  apart : ∀ (i j : Nat) (e e' : Ent B), i ≠ j → es[i]? = some e → es[j]? = some e' → ∀ k, bothOwn B e.L e.l k → ¬ bothOwn B e'.L e'.l k

theorem row_block {w : World} {base : Nat} {e : TypeId} {size : Nat} {v : Value} {n : Nat} {xs : List Value} (h : w.ownsRow base e size v n xs) {k : Nat} (hk : v.ownBlock = some k) : base ≤ k ∧ k < w.heap.size := by
  rcases h.2 with ⟨hv, _⟩ | ⟨g1, cap1, cur1, hv, hb, hg1, _⟩
  · rw [hv] at hk; cases hk
  · rw [hv] at hk
    cases hk
    exact ⟨hb, (Array.getElem?_eq_some_iff.1 hg1).1⟩

theorem Tab.ne {B : PB} {n g base : Nat} {vb : Value} {es : List (Ent B)} {w : World} (h : Tab B n g base vb es w) : vb.ownBlock ≠ some g := fun e => by
  have := (row_block h.row e).1
  have := h.gb
  omega

/-- Where nothing of it was touched it stands. -/
theorem Tab.kept {B : PB} (hB : PBok B) {S : Nat → Prop} {n g base : Nat} {vb : Value} {es : List (Ent B)} {w w' : World} (h : Tab B n g base vb es w) (hk : Kept S w w') (hg : ¬ S g) (hr : ∀ k, vb.ownBlock = some k → ¬ S k) (ho : ∀ (i : Nat) (e : Ent B), es[i]? = some e → ∀ k, bothOwn B e.L e.l k → ¬ S k) : Tab B n g base vb es w' :=
  have hgl : g < w.heap.size := lt_of_cell h.c0
  ⟨h.gb, Nat.le_trans h.bs hk.size, by rw [hk.cell hgl hg]; exact h.c0, fun j hj => by rw [hk.frozen hgl hg]; exact h.fz j hj, fun j h2 hj => by rw [hk.cell hgl hg]; exact h.cn j h2 hj,
    ownsRow_same h.row (fun k hk2 => hk.block k (row_block h.row hk2).2 (hr k hk2)), fun i e he => (h.each i e he).kept hB hk (ho i e he), h.own, h.apart⟩

/-- Later. -/
theorem Tab.later {B : PB} (hB : PBok B) {n m g base : Nat} {vb : Value} {es : List (Ent B)} {w : World} (h : Tab B n g base vb es w) (hm : n ≤ m) : Tab B m g base vb es w :=
  ⟨h.gb, h.bs, h.c0, h.fz, h.cn, h.row, fun i e he => (h.each i e he).more hB hm, h.own, h.apart⟩

theorem Tab.quiet {B : PB} (hB : PBok B) {n g base : Nat} {vb : Value} {es : List (Ent B)} {w w' : World} (h : Tab B n g base vb es w) (hk : Kept (fun _ => False) w w') : Tab B n g base vb es w' :=
  h.kept hB hk (fun x => x) (fun _ _ x => x) (fun _ _ _ _ _ x => x)

theorem entCells_set {B : PB} (es : List (Ent B)) (i : Nat) (e e' : Ent B) (he : es[i]? = some e) (hc : entCell B e' = entCell B e) : entCells B (es.set i e') = entCells B es := by
  unfold entCells
  induction es generalizing i with
  | nil => rfl
  | cons a r ih =>
    cases i with
    | zero =>
      simp only [List.getElem?_cons_zero, Option.some.injEq] at he
      subst he
      simp only [List.set_cons_zero, List.flatMap_cons, hc]
    | succ i =>
      simp only [List.getElem?_cons_succ] at he
      simp only [List.set_cons_succ, List.flatMap_cons, ih i he]

/-- One pair has gone on. -/
theorem Tab.gone {B : PB} (hB : PBok B) {n m g base : Nat} (hnm : n ≤ m) {vb : Value} {es : List (Ent B)} {w w' : World} (h : Tab B n g base vb es w) {i : Nat} {e : Ent B} (he : es[i]? = some e) {l' : B.Lt} {st' : St} (hg : Gone B m e.L e.l w w' l' st') : Tab B m g base vb (es.set i ⟨e.L, l', st'⟩) w' := by
  have hlt : i < es.length := (List.getElem?_eq_some_iff.1 he).1
  have hgl : g < w.heap.size := lt_of_cell h.c0
  have hog : ¬ bothOwn B e.L e.l g := fun x => by have := (h.own i e he g x).1; have := h.gb; omega
  have hlen : (es.set i ⟨e.L, l', st'⟩).length = es.length := List.length_set
  have get : ∀ j x, (es.set i ⟨e.L, l', st'⟩)[j]? = some x → (j = i ∧ x = ⟨e.L, l', st'⟩) ∨ (j ≠ i ∧ es[j]? = some x) := fun j x hx => by
    rw [List.getElem?_set] at hx
    by_cases hij : i = j
    · rw [if_pos hij, if_pos hlt] at hx
      exact Or.inl ⟨hij.symm, (Option.some.inj hx).symm⟩
    · rw [if_neg hij] at hx
      exact Or.inr ⟨fun e => hij e.symm, hx⟩
  have hown' : ∀ k, bothOwn B e.L l' k → bothOwn B e.L e.l k ∨ w.heap.size ≤ k := fun k hk => by
    rcases hk with hk | hk
    · exact Or.inl (Or.inl hk)
    · rcases hg.own k hk with x | x
      · exact Or.inl (Or.inr x)
      · exact Or.inr x
  refine ⟨h.gb, Nat.le_trans h.bs hg.kept.size, by rw [hg.kept.cell hgl hog]; exact h.c0, fun j hj => by rw [hg.kept.frozen hgl hog]; exact h.fz j hj, fun j h2 hj => by rw [hg.kept.cell hgl hog]; exact h.cn j h2 hj, ?_, ?_, ?_, ?_⟩
  · rw [hlen, entCells_set es i e ⟨e.L, l', st'⟩ he (by unfold entCell; rw [hg.g])]
    exact ownsRow_same h.row (fun k hk2 => hg.kept.block k (row_block h.row hk2).2 (fun x => (h.own i e he k x).2 hk2))
  · intro j x hx
    rcases get j x hx with ⟨rfl, rfl⟩ | ⟨hne, hx'⟩
    · exact hg.both
    · exact ((h.each j x hx').kept hB hg.kept (fun k hk => h.apart j i x e hne hx' he k hk)).more hB hnm
  · intro j x hx k hk
    rcases get j x hx with ⟨rfl, rfl⟩ | ⟨hne, hx'⟩
    · rcases hown' k hk with y | y
      · exact h.own j e he k y
      · refine ⟨Nat.le_trans h.bs y, fun e2 => ?_⟩
        have := (row_block h.row e2).2
        omega
    · exact h.own j x hx' k hk
  · intro j1 j2 x1 x2 hne h1 h2 k hk1 hk2
    rcases get j1 x1 h1 with ⟨rfl, rfl⟩ | ⟨hn1, h1'⟩
    · rcases get j2 x2 h2 with ⟨rfl, rfl⟩ | ⟨hn2, h2'⟩
      · exact hne rfl
      · rcases hown' k hk1 with y | y
        · exact h.apart j1 j2 e x2 hne he h2' k y hk2
        · have := (h.each j2 x2 h2').lt hB hk2
          omega
    · rcases get j2 x2 h2 with ⟨rfl, rfl⟩ | ⟨hn2, h2'⟩
      · rcases hown' k hk2 with y | y
        · exact h.apart j1 j2 x1 e hne h1' he k hk1 y
        · have := (h.each j1 x1 h1').lt hB hk1
          omega
      · exact h.apart j1 j2 x1 x2 hne h1' h2' k hk1 hk2

/-- One pair more. -/
theorem Tab.more {B : PB} (hB : PBok B) {n g base : Nat} {vb : Value} {es : List (Ent B)} {w w' : World} (h : Tab B n g base vb es w) {l : B.Lt} {L : Lay} {st : St} {g' cap : Nat} (hb : Both B 0 L l st w') (hf : ∀ k, bothOwn B L l k → w.heap.size ≤ k ∧ k ≠ g')
    (c0 : w'.cell? ⟨g, 0, none⟩ = some (.slice (some ⟨g', 0, none⟩) (es.length + 1) cap))
    (hrow : w'.ownsRow base 47 2 (.slice (some ⟨g', 0, none⟩) (es.length + 1) cap) (es.length + 1) (entCells B es ++ [.pointer (some ⟨B.g l, 0, none⟩), .pointer (some ⟨L.g, 0, none⟩)]))
    (hat : vb.ownBlock = some g' ∨ w.heap.size ≤ g') (hfz : ∀ j, j < 6 → w'.frozen? ⟨g, j, none⟩ = false) (hcn : ∀ j, 2 ≤ j → j < 6 → w'.cell? ⟨g, j, none⟩ = some (.slice none 0 0)) (hk : Kept (fun k => k = g ∨ vb.ownBlock = some k) w w') :
    Tab B n g base (.slice (some ⟨g', 0, none⟩) (es.length + 1) cap) (es ++ [⟨L, l, st⟩]) w' := by
  have get : ∀ j x, (es ++ [(⟨L, l, st⟩ : Ent B)])[j]? = some x → (j = es.length ∧ x = ⟨L, l, st⟩) ∨ (j < es.length ∧ es[j]? = some x) := fun j x hx => by
    rw [List.getElem?_append] at hx
    by_cases hj : j < es.length
    · rw [if_pos hj] at hx; exact Or.inr ⟨hj, hx⟩
    · rw [if_neg hj] at hx
      have h0 : j - es.length = 0 := by
        have := (List.getElem?_eq_some_iff.1 hx).1
        simp at this
        omega
      rw [h0] at hx
      simp at hx
      exact Or.inl ⟨by omega, hx.symm⟩
  have notS : ∀ (i : Nat) (e : Ent B), es[i]? = some e → ∀ k, bothOwn B e.L e.l k → ¬ (k = g ∨ vb.ownBlock = some k) := fun i e he k hk2 x => by
    have h1 := h.own i e he k hk2
    rcases x with x | x
    · have := h.gb; omega
    · exact h1.2 x
  refine ⟨h.gb, Nat.le_trans h.bs hk.size, c0, hfz, hcn, ?_, ?_, ?_, ?_⟩
  · have e1 : (es ++ [(⟨L, l, st⟩ : Ent B)]).length = es.length + 1 := by simp
    have e2 : entCells B (es ++ [(⟨L, l, st⟩ : Ent B)]) = entCells B es ++ [.pointer (some ⟨B.g l, 0, none⟩), .pointer (some ⟨L.g, 0, none⟩)] := by
      unfold entCells
      rw [List.flatMap_append]
      rfl
    rw [e1, e2]
    exact hrow
  · intro j x hx
    rcases get j x hx with ⟨_, rfl⟩ | ⟨_, hx'⟩
    · exact hb.more hB (Nat.zero_le _)
    · exact (h.each j x hx').kept hB hk (notS j x hx')
  · intro j x hx k hk2
    rcases get j x hx with ⟨_, rfl⟩ | ⟨_, hx'⟩
    · have h1 := hf k hk2
      refine ⟨Nat.le_trans h.bs h1.1, fun e => ?_⟩
      have e' : g' = k := Option.some.inj e
      exact h1.2 e'.symm
    · refine ⟨(h.own j x hx' k hk2).1, fun e => ?_⟩
      have e' : g' = k := Option.some.inj e
      subst e'
      rcases hat with y | y
      · exact (h.own j x hx' g' hk2).2 y
      · have := (h.each j x hx').lt hB hk2
        omega
  · intro j1 j2 x1 x2 hne h1 h2 k hk1 hk2
    rcases get j1 x1 h1 with ⟨q1, rfl⟩ | ⟨q1, h1'⟩
    · rcases get j2 x2 h2 with ⟨q2, rfl⟩ | ⟨q2, h2'⟩
      · omega
      · have := (hf k hk1).1
        have := (h.each j2 x2 h2').lt hB hk2
        omega
    · rcases get j2 x2 h2 with ⟨q2, rfl⟩ | ⟨q2, h2'⟩
      · have := (hf k hk2).1
        have := (h.each j1 x1 h1').lt hB hk1
        omega
      · exact h.apart j1 j2 x1 x2 hne h1' h2' k hk1 hk2

end Go.Proofs.YtikdbpphbdbdnaaGreat

/- One step of a script, of the kinds New, Made, Step, For and Tell. -/
namespace Go.Proofs.YtikdbpphbdbdnaaGreat
open Go.RowKit
set_option linter.unusedVariables false

/-- What a step leaves: the table, and nothing else touched. -/
def Left (B : PB) (cy g base : Nat) (es : List (Ent B)) (w w' : World) : Prop :=
  ∃ vb' es', Tab B cy g base vb' es' w' ∧ es'.length ≤ es.length + 1 ∧ Kept (fun k => k = g ∨ base ≤ k) w w'

/-- made, whatever the texts. -/
theorem made_any {B : PB} (hB : PBok B) {cy g base : Nat} {vb : Value} {es : List (Ent B)} {w : World} (h : Tab B cy g base vb es w) (a b : ByteArray) (ha : a.size ≤ maxLen) (hb : b.size ≤ maxLen) (hcy : cy + 1048576 < 1152921504606846976) (h63 : es.length + 1 ≤ maxLen) (hby : (es.length + 1) * 16 ≤ 140737488355328) :
    Calls Tryz.prog 13 #[.pointer (some ⟨g, 0, none⟩), .string a, .string b] w fun e w' => e = .returned (.bool true) ∧ Left B (cy + 1048576) g base es w w' := by
  by_cases hs : a.size = 64 ∧ b.size = 64
  · refine (made_ok hB a b g base es.length vb (entCells B es) w hs.1 hs.2 h.c0 (h.fz 0 (by omega)) h.row h.ne h63 hby h.bs).mono fun e w' ⟨he, l, L, g', cap, h1, h2, h3, h4, h5, h6, h7, h8, h9⟩ => ⟨he, _, _, (h.more hB h1 h2 h3 h4 h6 (fun j hj => by rw [h9 j]; exact h.fz j hj) (fun j h2 hj => by rw [h8 j (by omega)]; exact h.cn j h2 hj) h7).later hB (by omega), by simp, h7.wide (fun k hk => ?_)⟩
    rcases hk with hk | hk
    · exact Or.inl hk
    · exact Or.inr (row_block h.row hk).1
  · refine (made_no hB a b g w ha hb hs).mono fun e w' ⟨he, h1⟩ => ⟨he, vb, es, (h.quiet hB (Kept.below h1)).later hB (by omega), by omega, Kept.below h1⟩

theorem Left.before {B : PB} {cy g base : Nat} {es : List (Ent B)} {w w1 w' : World} (h : Left B cy g base es w1 w') (hk : Kept (fun k => k = g ∨ base ≤ k) w w1) : Left B cy g base es w w' := by
  obtain ⟨vb', es', h1, h2, h3⟩ := h
  exact ⟨vb', es', h1, h2, hk.trans h3⟩

theorem buildS_size (s : ByteArray) (n : Int) : (buildS s n).size ≤ maxLen := by
  unfold buildS maxLen
  split
  · show 0 ≤ _; omega
  split
  · show 0 ≤ _; omega
  · rw [imageOf_size s n (by omega)]; omega

set_option maxRecDepth 100000 in
set_option maxHeartbeats 1000000 in
theorem step_new {B : PB} (hB : PBok B) {cy g base : Nat} {vb : Value} {es : List (Ent B)} {w : World} (h : Tab B cy g base vb es w) (a b p q : Int) (s t : ByteArray) (la : Option Addr) (ll lc : Nat) (hs : s.size ≤ maxLen) (ht : t.size ≤ maxLen) (hcy : cy + 1048576 < 1152921504606846976) (h63 : es.length + 1 ≤ maxLen) (hby : (es.length + 1) * 16 ≤ 140737488355328) :
    Calls Tryz.prog 9 #[.pointer (some ⟨g, 0, none⟩), .agg #[.int .i64 4, .int .i64 a, .int .i64 b, .string s, .string t, .int .i64 p, .int .i64 q, .slice la ll lc]] w fun e w' => e = .returned (.bool true) ∧ Left B (cy + 1048576) g base es w w' := by
  have k0 := fun o => (Kept.refl (fun k => k = g ∨ base ≤ k) w).alloc o
  go_enter Tryz.func9, Tryz.ntmps9
  go_wp2_with fail
  refine (made_any hB (h.quiet hB ((Kept.refl _ w).alloc _)) s t hs ht hcy h63 hby).mono ?_
  rintro e w1 ⟨rfl, h1⟩
  have h2 := h1.before (k0 _)
  go_wp2
  go_ret
  exact ⟨rfl, h2⟩

set_option maxRecDepth 100000 in
set_option maxHeartbeats 1000000 in
theorem step_made {B : PB} (hB : PBok B) {cy g base : Nat} {vb : Value} {es : List (Ent B)} {w : World} (h : Tab B cy g base vb es w) (a b p q : Int) (s t : ByteArray) (la : Option Addr) (ll lc : Nat) (hcy : cy + 1048576 < 1152921504606846976) (h63 : es.length + 1 ≤ maxLen) (hby : (es.length + 1) * 16 ≤ 140737488355328) :
    Calls Tryz.prog 9 #[.pointer (some ⟨g, 0, none⟩), .agg #[.int .i64 5, .int .i64 a, .int .i64 b, .string s, .string t, .int .i64 p, .int .i64 q, .slice la ll lc]] w fun e w' => e = .returned (.bool true) ∧ Left B (cy + 1048576) g base es w w' := by
  go_enter Tryz.func9, Tryz.ntmps9
  go_wp2_with fail
  refine (rBuild_any s a _).mono ?_
  rintro e w1 ⟨rfl, b1⟩
  obtain ⟨hc, hf⟩ := bcell b1
  have hz : w.heap.size < w1.heap.size := by have := b1.size; simp at this; omega
  go_wp2_with fail
  refine (rBuild_any t b _).mono ?_
  rintro e w2 ⟨rfl, b2⟩
  have k2 : Kept (fun _ => False) w w2 := (((Kept.refl _ w).alloc _).trans (Kept.below b1)).trans (Kept.below b2)
  have h2 := h.quiet hB k2
  go_wp2_with fail
  refine (made_any hB h2 (buildS s a) (buildS t b) (buildS_size s a) (buildS_size t b) hcy h63 hby).mono ?_
  rintro e w3 ⟨rfl, h3⟩
  have h4 := h3.before (k2.wide (fun _ x => x.elim))
  go_wp2
  go_ret
  exact ⟨rfl, h4⟩

end Go.Proofs.YtikdbpphbdbdnaaGreat

/- One step of a script on a board that is there: Step, For, Tell. -/
namespace Go.Proofs.YtikdbpphbdbdnaaGreat
open Go.RowKit
set_option linter.unusedVariables false

theorem entCells_at {B : PB} (es : List (Ent B)) (i : Nat) (e : Ent B) (he : es[i]? = some e) : (entCells B es)[i * 2]? = some (.pointer (some ⟨B.g e.l, 0, none⟩)) ∧ (entCells B es)[i * 2 + 1]? = some (.pointer (some ⟨e.L.g, 0, none⟩)) := by
  unfold entCells
  induction es generalizing i with
  | nil => cases he
  | cons x r ih =>
    cases i with
    | zero =>
      simp only [List.getElem?_cons_zero, Option.some.injEq] at he
      subst he
      exact ⟨rfl, rfl⟩
    | succ i =>
      simp only [List.getElem?_cons_succ] at he
      have h := ih i he
      rw [List.flatMap_cons, show (i + 1) * 2 = (i * 2) + 2 from by omega, show i * 2 + 2 + 1 = (i * 2 + 1) + 2 from by omega]
      exact h

theorem cell_in {w : World} {b : Nat} {cs : Array Value} {t : TypeId} (h : w.heap[b]? = some (.cells cs t)) (j : Nat) : w.cell? ⟨b, j, none⟩ = cs[j]? := by
  simp [World.cell?, h]

/-- The blocks in which scripts and their inputs lie. -/
def Old (g base : Nat) (k : Nat) : Prop := k < base ∧ k ≠ g

/-- The cells of the i-th pair. -/
theorem Tab.pair {B : PB} {cy g base : Nat} {vb : Value} {es : List (Ent B)} {w : World} (h : Tab B cy g base vb es w) {i : Nat} {e : Ent B} (he : es[i]? = some e) :
    ∃ rb cap, vb = .slice (some ⟨rb, 0, none⟩) es.length cap ∧ base ≤ rb ∧ rb < w.heap.size ∧ w.cell? ⟨rb, i * 2, none⟩ = some (.pointer (some ⟨B.g e.l, 0, none⟩)) ∧ w.cell? ⟨rb, i * 2 + 1, none⟩ = some (.pointer (some ⟨e.L.g, 0, none⟩)) := by
  have hi : i < es.length := (List.getElem?_eq_some_iff.1 he).1
  rcases h.row.2 with ⟨_, h0⟩ | ⟨rb, cap, cur, hv, hb, hg, hn, hm, hsz, hxs⟩
  · omega
  · obtain ⟨q0, q1⟩ := entCells_at es i e he
    rw [← hxs] at q0 q1
    rw [List.getElem?_take_of_lt (by omega), Array.getElem?_toList] at q0 q1
    exact ⟨rb, cap, hv, hb, (Array.getElem?_eq_some_iff.1 hg).1, by rw [cell_in hg]; exact q0, by rw [cell_in hg]; exact q1⟩

theorem Tab.len {B : PB} {cy g base : Nat} {vb : Value} {es : List (Ent B)} {w : World} (h : Tab B cy g base vb es w) (h0 : es.length = 0) : ∃ a cap, vb = .slice a 0 cap := by
  rcases h.row.2 with ⟨hv, _⟩ | ⟨rb, cap, cur, hv, _⟩
  · exact ⟨none, 0, hv⟩
  · exact ⟨_, cap, by rw [hv, h0]⟩

set_option maxRecDepth 100000 in
set_option maxHeartbeats 1000000 in
theorem step_none {B : PB} (hB : PBok B) {cy g base : Nat} {vb : Value} {es : List (Ent B)} {w : World} (h : Tab B cy g base vb es w) (hcy : cy + 1048576 < 1152921504606846976) (h0 : es.length = 0) (k a b p q : Int) (s t : ByteArray) (la : Option Addr) (ll lc : Nat) (hk : 6 ≤ k) :
    Calls Tryz.prog 9 #[.pointer (some ⟨g, 0, none⟩), .agg #[.int .i64 k, .int .i64 a, .int .i64 b, .string s, .string t, .int .i64 p, .int .i64 q, .slice la ll lc]] w fun e w' => e = .returned (.bool true) ∧ Left B (cy + 1048576) g base es w w' := by
  obtain ⟨va, cap, rfl⟩ := h.len h0
  have c0 := h.c0
  have hg := lt_of_cell c0
  have k3 : ¬ k ≤ 3 := by omega
  have e4 : (k == 4) = false := beq_eq_false_iff_ne.2 (by omega)
  have e5 : (k == 5) = false := beq_eq_false_iff_ne.2 (by omega)
  have hq := fun o => h.quiet hB ((Kept.refl _ w).alloc o)
  go_enter Tryz.func9, Tryz.ntmps9
  go_wp2
  go_ret
  exact ⟨rfl, _, es, (hq _).later hB (by omega), by omega, (Kept.refl _ w).alloc _⟩

set_option maxRecDepth 100000 in
set_option maxHeartbeats 1000000 in
theorem step_steps6 {B : PB} (hB : PBok B) {cy g base : Nat} {vb : Value} {es : List (Ent B)} {w : World} (h : Tab B cy g base vb es w) (hcy : cy + 1048576 < 1152921504606846976) (h0 : 0 < es.length) (hmax : es.length ≤ maxLen) (a b p q : Int) (s t : ByteArray) (la : Option Addr) (ll lc : Nat) (a0 : -9223372036854775808 ≤ a) (a1 : a ≤ 9223372036854775807) (hl : IsIns w (Old g base) la ll) (hll : ll ≤ maxLen) (hl20 : ll ≤ 1048576) :
    Calls Tryz.prog 9 #[.pointer (some ⟨g, 0, none⟩), .agg #[.int .i64 6, .int .i64 a, .int .i64 b, .string s, .string t, .int .i64 p, .int .i64 q, .slice la ll lc]] w fun e w' => e = .returned (.bool true) ∧ Left B (cy + 1048576) g base es w w' := by
  unfold maxLen at hmax
  obtain ⟨pk0, pk1⟩ := pickN_bounds a es.length (by omega)
  obtain ⟨e, he⟩ : ∃ e, es[(pickN a es.length).toNat]? = some e := ⟨es[(pickN a es.length).toNat]'(by omega), List.getElem?_eq_getElem (by omega)⟩
  obtain ⟨rb, cap, rfl, hrb, hrbw, r0, r1⟩ := h.pair he
  have c0 := h.c0
  have hg := lt_of_cell c0
  have hlen : ((es.length : Int) == 0) = false := beq_eq_false_iff_ne.2 (by omega)
  have hS : ∀ W : World, Kept (fun _ => False) (w.alloc (.cells #[.int .i64 6, .int .i64 a, .int .i64 b, .string s, .string t, .int .i64 p, .int .i64 q, .slice la ll lc] 36)) W → W.cell? ⟨g, 0, none⟩ = some (.slice (some ⟨rb, 0, none⟩) es.length cap) ∧ W.cell? ⟨w.heap.size, 1, none⟩ = some (.int .i64 a) ∧ W.cell? ⟨rb, (pickN a es.length).toNat * 2, none⟩ = some (.pointer (some ⟨B.g e.l, 0, none⟩)) ∧ W.cell? ⟨rb, (pickN a es.length).toNat * 2 + 1, none⟩ = some (.pointer (some ⟨e.L.g, 0, none⟩)) := fun W hW =>
    ⟨by rw [hW.cell (b := g) (by simp; omega) (fun x => x), World.cell?_alloc_past _ _ _ hg]; exact c0, by rw [hW.cell (b := w.heap.size) (by simp) (fun x => x)]; simp [go_sem], by rw [hW.cell (b := rb) (by simp; omega) (fun x => x), World.cell?_alloc_past _ _ _ hrbw]; exact r0, by rw [hW.cell (b := rb) (by simp; omega) (fun x => x), World.cell?_alloc_past _ _ _ hrbw]; exact r1⟩
  have HS : Hid _ := hS
  have HP : Hid (∀ W : World, Calls Tryz.prog 15 #[.int .i64 a, .int .i64 (es.length : Int)] W fun e w' => e = .returned (.int .i64 (pickN a es.length)) ∧ w' = W) := fun W => pick_any a es.length W a0 a1 (by omega) (by omega)
  have hT := fun o => h.quiet hB ((Kept.refl _ w).alloc o)
  have hfin : ∀ (W W' : World) (l' : B.Lt) (st' : St), Kept (fun _ => False) w W → Gone B (cy + 1048576) e.L e.l W W' l' st' → Left B (cy + 1048576) g base es w W' := fun W W' l' st' hk hgo =>
    ⟨_, _, (h.quiet hB hk).gone hB (by omega) he hgo, by rw [List.length_set]; omega, (hk.wide (fun _ x => x.elim)).trans (hgo.kept.wide (fun k hk2 => Or.inr (h.own _ e he k hk2).1))⟩
  have hbo : ∀ W : World, Kept (fun _ => False) w W → Both B cy e.L e.l e.st W := fun W hk => (h.each _ e he).kept hB hk (fun _ _ x => x)
  have hTo : ∀ k, Old g base k → ¬ bothOwn B e.L e.l k := fun k hk x => by have := (h.own _ e he k x).1; have := hk.1; omega
  clear hS
  go_enter Tryz.func9, Tryz.ntmps9
  go_wp2
  go_region_held3 (fun W => W.cell? ⟨g, 0, none⟩ = some (.slice (some ⟨rb, 0, none⟩) es.length cap) ∧ W.cell? ⟨w.heap.size, 1, none⟩ = some (.int .i64 a) ∧ W.cell? ⟨rb, (pickN a es.length).toNat * 2, none⟩ = some (.pointer (some ⟨B.g e.l, 0, none⟩)) ∧ W.cell? ⟨rb, (pickN a es.length).toNat * 2 + 1, none⟩ = some (.pointer (some ⟨e.L.g, 0, none⟩))) (first | (apply HS.out; (repeat (with_reducible first | apply Kept.alloc | apply Kept.drewN | apply Kept.drew | apply Kept.rg | apply Kept.p | apply Kept.q | refine Kept.setCell ?_ (Or.inr (Nat.le_refl _)) _ | refine Kept.setCell ?_ (Or.inr (by omega)) _ | exact k1 | exact k2 | exact k3 | exact Kept.refl _ _)); done) | go_keep) (first | (go_at_call 15; refine Calls.mono (HP.out _) ?_; rintro e w' ⟨rfl, rfl⟩))
  all_goals
    go_wp2_with fail
    refine (steps_step hB (hbo _ (by (repeat (with_reducible first | apply Kept.alloc | apply Kept.drewN | apply Kept.drew | apply Kept.rg | apply Kept.p | apply Kept.q | refine Kept.setCell ?_ (Or.inr (Nat.le_refl _)) _ | refine Kept.setCell ?_ (Or.inr (by omega)) _ | exact k1 | exact k2 | exact k3 | exact Kept.refl _ _)))) (Old g base) hTo a b p q s t la ll lc (hl.kept (S := fun _ => False) (by (repeat (with_reducible first | apply Kept.alloc | apply Kept.drewN | apply Kept.drew | apply Kept.rg | apply Kept.p | apply Kept.q | refine Kept.setCell ?_ (Or.inr (Nat.le_refl _)) _ | refine Kept.setCell ?_ (Or.inr (by omega)) _ | exact k1 | exact k2 | exact k3 | exact Kept.refl _ _))) (fun _ _ x => x)) hll (by omega)).mono ?_
    rintro e1 w1 ⟨rfl, l', st', hgo⟩
    go_wp2
    go_ret
    exact ⟨rfl, hfin _ _ l' st' (by (repeat (with_reducible first | apply Kept.alloc | apply Kept.drewN | apply Kept.drew | apply Kept.rg | apply Kept.p | apply Kept.q | refine Kept.setCell ?_ (Or.inr (Nat.le_refl _)) _ | refine Kept.setCell ?_ (Or.inr (by omega)) _ | exact k1 | exact k2 | exact k3 | exact Kept.refl _ _))) (hgo.later hB (by omega))⟩

set_option maxRecDepth 100000 in
set_option maxHeartbeats 1000000 in
theorem step_tell8 {B : PB} (hB : PBok B) {cy g base : Nat} {vb : Value} {es : List (Ent B)} {w : World} (h : Tab B cy g base vb es w) (hcy : cy + 1048576 < 1152921504606846976) (h0 : 0 < es.length) (hmax : es.length ≤ maxLen) (a b p q : Int) (s t : ByteArray) (la : Option Addr) (ll lc : Nat) (a0 : -9223372036854775808 ≤ a) (a1 : a ≤ 9223372036854775807)  :
    Calls Tryz.prog 9 #[.pointer (some ⟨g, 0, none⟩), .agg #[.int .i64 8, .int .i64 a, .int .i64 b, .string s, .string t, .int .i64 p, .int .i64 q, .slice la ll lc]] w fun e w' => e = .returned (.bool true) ∧ Left B (cy + 1048576) g base es w w' := by
  unfold maxLen at hmax
  obtain ⟨pk0, pk1⟩ := pickN_bounds a es.length (by omega)
  obtain ⟨e, he⟩ : ∃ e, es[(pickN a es.length).toNat]? = some e := ⟨es[(pickN a es.length).toNat]'(by omega), List.getElem?_eq_getElem (by omega)⟩
  obtain ⟨rb, cap, rfl, hrb, hrbw, r0, r1⟩ := h.pair he
  have c0 := h.c0
  have hg := lt_of_cell c0
  have hlen : ((es.length : Int) == 0) = false := beq_eq_false_iff_ne.2 (by omega)
  have hS : ∀ W : World, Kept (fun _ => False) (w.alloc (.cells #[.int .i64 8, .int .i64 a, .int .i64 b, .string s, .string t, .int .i64 p, .int .i64 q, .slice la ll lc] 36)) W → W.cell? ⟨g, 0, none⟩ = some (.slice (some ⟨rb, 0, none⟩) es.length cap) ∧ W.cell? ⟨w.heap.size, 1, none⟩ = some (.int .i64 a) ∧ W.cell? ⟨rb, (pickN a es.length).toNat * 2, none⟩ = some (.pointer (some ⟨B.g e.l, 0, none⟩)) ∧ W.cell? ⟨rb, (pickN a es.length).toNat * 2 + 1, none⟩ = some (.pointer (some ⟨e.L.g, 0, none⟩)) := fun W hW =>
    ⟨by rw [hW.cell (b := g) (by simp; omega) (fun x => x), World.cell?_alloc_past _ _ _ hg]; exact c0, by rw [hW.cell (b := w.heap.size) (by simp) (fun x => x)]; simp [go_sem], by rw [hW.cell (b := rb) (by simp; omega) (fun x => x), World.cell?_alloc_past _ _ _ hrbw]; exact r0, by rw [hW.cell (b := rb) (by simp; omega) (fun x => x), World.cell?_alloc_past _ _ _ hrbw]; exact r1⟩
  have HS : Hid _ := hS
  have HP : Hid (∀ W : World, Calls Tryz.prog 15 #[.int .i64 a, .int .i64 (es.length : Int)] W fun e w' => e = .returned (.int .i64 (pickN a es.length)) ∧ w' = W) := fun W => pick_any a es.length W a0 a1 (by omega) (by omega)
  have hT := fun o => h.quiet hB ((Kept.refl _ w).alloc o)
  have hfin : ∀ (W W' : World) (l' : B.Lt) (st' : St), Kept (fun _ => False) w W → Gone B (cy + 1048576) e.L e.l W W' l' st' → Left B (cy + 1048576) g base es w W' := fun W W' l' st' hk hgo =>
    ⟨_, _, (h.quiet hB hk).gone hB (by omega) he hgo, by rw [List.length_set]; omega, (hk.wide (fun _ x => x.elim)).trans (hgo.kept.wide (fun k hk2 => Or.inr (h.own _ e he k hk2).1))⟩
  have hbo : ∀ W : World, Kept (fun _ => False) w W → Both B cy e.L e.l e.st W := fun W hk => (h.each _ e he).kept hB hk (fun _ _ x => x)
  have hTo : ∀ k, Old g base k → ¬ bothOwn B e.L e.l k := fun k hk x => by have := (h.own _ e he k x).1; have := hk.1; omega
  clear hS
  go_enter Tryz.func9, Tryz.ntmps9
  go_wp2
  go_region_held3 (fun W => W.cell? ⟨g, 0, none⟩ = some (.slice (some ⟨rb, 0, none⟩) es.length cap) ∧ W.cell? ⟨w.heap.size, 1, none⟩ = some (.int .i64 a) ∧ W.cell? ⟨rb, (pickN a es.length).toNat * 2, none⟩ = some (.pointer (some ⟨B.g e.l, 0, none⟩)) ∧ W.cell? ⟨rb, (pickN a es.length).toNat * 2 + 1, none⟩ = some (.pointer (some ⟨e.L.g, 0, none⟩))) (first | (apply HS.out; (repeat (with_reducible first | apply Kept.alloc | apply Kept.drewN | apply Kept.drew | apply Kept.rg | apply Kept.p | apply Kept.q | refine Kept.setCell ?_ (Or.inr (Nat.le_refl _)) _ | refine Kept.setCell ?_ (Or.inr (by omega)) _ | exact k1 | exact k2 | exact k3 | exact Kept.refl _ _)); done) | go_keep) (first | (go_at_call 15; refine Calls.mono (HP.out _) ?_; rintro e w' ⟨rfl, rfl⟩))
  all_goals
    go_wp2_with fail
    refine (tells_tell hB (hbo _ (by (repeat (with_reducible first | apply Kept.alloc | apply Kept.drewN | apply Kept.drew | apply Kept.rg | apply Kept.p | apply Kept.q | refine Kept.setCell ?_ (Or.inr (Nat.le_refl _)) _ | refine Kept.setCell ?_ (Or.inr (by omega)) _ | exact k1 | exact k2 | exact k3 | exact Kept.refl _ _)))) a b p q s t la ll lc).mono ?_
    rintro e1 w1 ⟨rfl, l', st', hgo⟩
    go_wp2
    go_ret
    exact ⟨rfl, hfin _ _ l' st' (by (repeat (with_reducible first | apply Kept.alloc | apply Kept.drewN | apply Kept.drew | apply Kept.rg | apply Kept.p | apply Kept.q | refine Kept.setCell ?_ (Or.inr (Nat.le_refl _)) _ | refine Kept.setCell ?_ (Or.inr (by omega)) _ | exact k1 | exact k2 | exact k3 | exact Kept.refl _ _))) (hgo.later hB (by omega))⟩

set_option maxRecDepth 100000 in
set_option maxHeartbeats 1000000 in
theorem step_for7n {B : PB} (hB : PBok B) {cy g base : Nat} {vb : Value} {es : List (Ent B)} {w : World} (h : Tab B cy g base vb es w) (hcy : cy + 1048576 < 1152921504606846976) (h0 : 0 < es.length) (hmax : es.length ≤ maxLen) (a b p q : Int) (s t : ByteArray) (la : Option Addr) (ll lc : Nat) (a0 : -9223372036854775808 ≤ a) (a1 : a ≤ 9223372036854775807) (b0 : -9223372036854775808 ≤ b) (b1 : b ≤ 9223372036854775807) (hl0 : ll = 0) :
    Calls Tryz.prog 9 #[.pointer (some ⟨g, 0, none⟩), .agg #[.int .i64 7, .int .i64 a, .int .i64 b, .string s, .string t, .int .i64 p, .int .i64 q, .slice la ll lc]] w fun e w' => e = .returned (.bool true) ∧ Left B (cy + 1048576) g base es w w' := by
  unfold maxLen at hmax
  subst hl0
  obtain ⟨pk0, pk1⟩ := pickN_bounds a es.length (by omega)
  obtain ⟨e, he⟩ : ∃ e, es[(pickN a es.length).toNat]? = some e := ⟨es[(pickN a es.length).toNat]'(by omega), List.getElem?_eq_getElem (by omega)⟩
  obtain ⟨rb, cap, rfl, hrb, hrbw, r0, r1⟩ := h.pair he
  have c0 := h.c0
  have hg := lt_of_cell c0
  have hlen : ((es.length : Int) == 0) = false := beq_eq_false_iff_ne.2 (by omega)
  have hS : ∀ W : World, Kept (fun _ => False) (w.alloc (.cells #[.int .i64 7, .int .i64 a, .int .i64 b, .string s, .string t, .int .i64 p, .int .i64 q, .slice la 0 lc] 36)) W → W.cell? ⟨g, 0, none⟩ = some (.slice (some ⟨rb, 0, none⟩) es.length cap) ∧ W.cell? ⟨w.heap.size, 1, none⟩ = some (.int .i64 a) ∧ W.cell? ⟨rb, (pickN a es.length).toNat * 2, none⟩ = some (.pointer (some ⟨B.g e.l, 0, none⟩)) ∧ W.cell? ⟨rb, (pickN a es.length).toNat * 2 + 1, none⟩ = some (.pointer (some ⟨e.L.g, 0, none⟩)) := fun W hW =>
    ⟨by rw [hW.cell (b := g) (by simp; omega) (fun x => x), World.cell?_alloc_past _ _ _ hg]; exact c0, by rw [hW.cell (b := w.heap.size) (by simp) (fun x => x)]; simp [go_sem], by rw [hW.cell (b := rb) (by simp; omega) (fun x => x), World.cell?_alloc_past _ _ _ hrbw]; exact r0, by rw [hW.cell (b := rb) (by simp; omega) (fun x => x), World.cell?_alloc_past _ _ _ hrbw]; exact r1⟩
  have HS : Hid _ := hS
  have HP : Hid (∀ W : World, Calls Tryz.prog 15 #[.int .i64 a, .int .i64 (es.length : Int)] W fun e w' => e = .returned (.int .i64 (pickN a es.length)) ∧ w' = W) := fun W => pick_any a es.length W a0 a1 (by omega) (by omega)
  have hT := fun o => h.quiet hB ((Kept.refl _ w).alloc o)
  have hfin : ∀ (W W' : World) (l' : B.Lt) (st' : St), Kept (fun _ => False) w W → Gone B (cy + 1048576) e.L e.l W W' l' st' → Left B (cy + 1048576) g base es w W' := fun W W' l' st' hk hgo =>
    ⟨_, _, (h.quiet hB hk).gone hB (by omega) he hgo, by rw [List.length_set]; omega, (hk.wide (fun _ x => x.elim)).trans (hgo.kept.wide (fun k hk2 => Or.inr (h.own _ e he k hk2).1))⟩
  have hbo : ∀ W : World, Kept (fun _ => False) w W → Both B cy e.L e.l e.st W := fun W hk => (h.each _ e he).kept hB hk (fun _ _ x => x)
  have hTo : ∀ k, Old g base k → ¬ bothOwn B e.L e.l k := fun k hk x => by have := (h.own _ e he k x).1; have := hk.1; omega
  clear hS
  go_enter Tryz.func9, Tryz.ntmps9
  go_wp2
  go_region_held3 (fun W => W.cell? ⟨g, 0, none⟩ = some (.slice (some ⟨rb, 0, none⟩) es.length cap) ∧ W.cell? ⟨w.heap.size, 1, none⟩ = some (.int .i64 a) ∧ W.cell? ⟨rb, (pickN a es.length).toNat * 2, none⟩ = some (.pointer (some ⟨B.g e.l, 0, none⟩)) ∧ W.cell? ⟨rb, (pickN a es.length).toNat * 2 + 1, none⟩ = some (.pointer (some ⟨e.L.g, 0, none⟩))) (first | (apply HS.out; (repeat (with_reducible first | apply Kept.alloc | apply Kept.drewN | apply Kept.drew | apply Kept.rg | apply Kept.p | apply Kept.q | refine Kept.setCell ?_ (Or.inr (Nat.le_refl _)) _ | refine Kept.setCell ?_ (Or.inr (by omega)) _ | exact k1 | exact k2 | exact k3 | exact Kept.refl _ _)); done) | go_keep) (first | (go_at_call 15; refine Calls.mono (HP.out _) ?_; rintro e w' ⟨rfl, rfl⟩))
  all_goals
    go_wp2_with fail
    refine (steps_for_none hB (by omega) (hbo _ (by (repeat (with_reducible first | apply Kept.alloc | apply Kept.drewN | apply Kept.drew | apply Kept.rg | apply Kept.p | apply Kept.q | refine Kept.setCell ?_ (Or.inr (Nat.le_refl _)) _ | refine Kept.setCell ?_ (Or.inr (by omega)) _ | exact k1 | exact k2 | exact k3 | exact Kept.refl _ _)))) 7 a b p q s t la 0 lc rfl b0 b1 rfl).mono ?_
    rintro e1 w1 ⟨rfl, l', st', hgo⟩
    go_wp2
    go_ret
    exact ⟨rfl, hfin _ _ l' st' (by (repeat (with_reducible first | apply Kept.alloc | apply Kept.drewN | apply Kept.drew | apply Kept.rg | apply Kept.p | apply Kept.q | refine Kept.setCell ?_ (Or.inr (Nat.le_refl _)) _ | refine Kept.setCell ?_ (Or.inr (by omega)) _ | exact k1 | exact k2 | exact k3 | exact Kept.refl _ _))) (hgo.later hB (by omega))⟩

set_option maxRecDepth 100000 in
set_option maxHeartbeats 1000000 in
theorem step_for7s {B : PB} (hB : PBok B) {cy g base : Nat} {vb : Value} {es : List (Ent B)} {w : World} (h : Tab B cy g base vb es w) (hcy : cy + 1048576 < 1152921504606846976) (h0 : 0 < es.length) (hmax : es.length ≤ maxLen) (a b p q : Int) (s t : ByteArray) (la : Option Addr) (ll lc : Nat) (a0 : -9223372036854775808 ≤ a) (a1 : a ≤ 9223372036854775807) (hl : IsIns w (Old g base) la ll) (hll : ll ≤ maxLen) (b0 : -9223372036854775808 ≤ b) (b1 : b ≤ 9223372036854775807) (hl0 : 0 < ll) :
    Calls Tryz.prog 9 #[.pointer (some ⟨g, 0, none⟩), .agg #[.int .i64 7, .int .i64 a, .int .i64 b, .string s, .string t, .int .i64 p, .int .i64 q, .slice la ll lc]] w fun e w' => e = .returned (.bool true) ∧ Left B (cy + 1048576) g base es w w' := by
  unfold maxLen at hmax
  obtain ⟨pk0, pk1⟩ := pickN_bounds a es.length (by omega)
  obtain ⟨e, he⟩ : ∃ e, es[(pickN a es.length).toNat]? = some e := ⟨es[(pickN a es.length).toNat]'(by omega), List.getElem?_eq_getElem (by omega)⟩
  obtain ⟨rb, cap, rfl, hrb, hrbw, r0, r1⟩ := h.pair he
  have c0 := h.c0
  have hg := lt_of_cell c0
  have hlen : ((es.length : Int) == 0) = false := beq_eq_false_iff_ne.2 (by omega)
  have hS : ∀ W : World, Kept (fun _ => False) (w.alloc (.cells #[.int .i64 7, .int .i64 a, .int .i64 b, .string s, .string t, .int .i64 p, .int .i64 q, .slice la ll lc] 36)) W → W.cell? ⟨g, 0, none⟩ = some (.slice (some ⟨rb, 0, none⟩) es.length cap) ∧ W.cell? ⟨w.heap.size, 1, none⟩ = some (.int .i64 a) ∧ W.cell? ⟨rb, (pickN a es.length).toNat * 2, none⟩ = some (.pointer (some ⟨B.g e.l, 0, none⟩)) ∧ W.cell? ⟨rb, (pickN a es.length).toNat * 2 + 1, none⟩ = some (.pointer (some ⟨e.L.g, 0, none⟩)) := fun W hW =>
    ⟨by rw [hW.cell (b := g) (by simp; omega) (fun x => x), World.cell?_alloc_past _ _ _ hg]; exact c0, by rw [hW.cell (b := w.heap.size) (by simp) (fun x => x)]; simp [go_sem], by rw [hW.cell (b := rb) (by simp; omega) (fun x => x), World.cell?_alloc_past _ _ _ hrbw]; exact r0, by rw [hW.cell (b := rb) (by simp; omega) (fun x => x), World.cell?_alloc_past _ _ _ hrbw]; exact r1⟩
  have HS : Hid _ := hS
  have HP : Hid (∀ W : World, Calls Tryz.prog 15 #[.int .i64 a, .int .i64 (es.length : Int)] W fun e w' => e = .returned (.int .i64 (pickN a es.length)) ∧ w' = W) := fun W => pick_any a es.length W a0 a1 (by omega) (by omega)
  have hT := fun o => h.quiet hB ((Kept.refl _ w).alloc o)
  have hfin : ∀ (W W' : World) (l' : B.Lt) (st' : St), Kept (fun _ => False) w W → Gone B (cy + 1048576) e.L e.l W W' l' st' → Left B (cy + 1048576) g base es w W' := fun W W' l' st' hk hgo =>
    ⟨_, _, (h.quiet hB hk).gone hB (by omega) he hgo, by rw [List.length_set]; omega, (hk.wide (fun _ x => x.elim)).trans (hgo.kept.wide (fun k hk2 => Or.inr (h.own _ e he k hk2).1))⟩
  have hbo : ∀ W : World, Kept (fun _ => False) w W → Both B cy e.L e.l e.st W := fun W hk => (h.each _ e he).kept hB hk (fun _ _ x => x)
  have hTo : ∀ k, Old g base k → ¬ bothOwn B e.L e.l k := fun k hk x => by have := (h.own _ e he k x).1; have := hk.1; omega
  clear hS
  go_enter Tryz.func9, Tryz.ntmps9
  go_wp2
  go_region_held3 (fun W => W.cell? ⟨g, 0, none⟩ = some (.slice (some ⟨rb, 0, none⟩) es.length cap) ∧ W.cell? ⟨w.heap.size, 1, none⟩ = some (.int .i64 a) ∧ W.cell? ⟨rb, (pickN a es.length).toNat * 2, none⟩ = some (.pointer (some ⟨B.g e.l, 0, none⟩)) ∧ W.cell? ⟨rb, (pickN a es.length).toNat * 2 + 1, none⟩ = some (.pointer (some ⟨e.L.g, 0, none⟩))) (first | (apply HS.out; (repeat (with_reducible first | apply Kept.alloc | apply Kept.drewN | apply Kept.drew | apply Kept.rg | apply Kept.p | apply Kept.q | refine Kept.setCell ?_ (Or.inr (Nat.le_refl _)) _ | refine Kept.setCell ?_ (Or.inr (by omega)) _ | exact k1 | exact k2 | exact k3 | exact Kept.refl _ _)); done) | go_keep) (first | (go_at_call 15; refine Calls.mono (HP.out _) ?_; rintro e w' ⟨rfl, rfl⟩))
  all_goals
    go_wp2_with fail
    refine (steps_for_some hB (by omega) (hbo _ (by (repeat (with_reducible first | apply Kept.alloc | apply Kept.drewN | apply Kept.drew | apply Kept.rg | apply Kept.p | apply Kept.q | refine Kept.setCell ?_ (Or.inr (Nat.le_refl _)) _ | refine Kept.setCell ?_ (Or.inr (by omega)) _ | exact k1 | exact k2 | exact k3 | exact Kept.refl _ _)))) 7 a b p q s t la ll lc rfl b0 b1 (Old g base) hTo (hl.kept (S := fun _ => False) (by (repeat (with_reducible first | apply Kept.alloc | apply Kept.drewN | apply Kept.drew | apply Kept.rg | apply Kept.p | apply Kept.q | refine Kept.setCell ?_ (Or.inr (Nat.le_refl _)) _ | refine Kept.setCell ?_ (Or.inr (by omega)) _ | exact k1 | exact k2 | exact k3 | exact Kept.refl _ _))) (fun _ _ x => x)) hl0 hll).mono ?_
    rintro e1 w1 ⟨rfl, l', st', hgo⟩
    go_wp2
    go_ret
    exact ⟨rfl, hfin _ _ l' st' (by (repeat (with_reducible first | apply Kept.alloc | apply Kept.drewN | apply Kept.drew | apply Kept.rg | apply Kept.p | apply Kept.q | refine Kept.setCell ?_ (Or.inr (Nat.le_refl _)) _ | refine Kept.setCell ?_ (Or.inr (by omega)) _ | exact k1 | exact k2 | exact k3 | exact Kept.refl _ _))) (hgo.later hB (by omega))⟩


end Go.Proofs.YtikdbpphbdbdnaaGreat
