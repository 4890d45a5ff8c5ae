/- The list of pairs of boards beside the lists that came out or were handed in: all of them lie apart, each pair stands alike on both sides. -/
import Derived.Test.YtikdbpphbdbdnaaGreatLent8
namespace Go.Proofs.YtikdbpphbdbdnaaGreat
open Go.RowKit
set_option linter.unusedVariables false

/-- One pair of boards: where they lie, how they stand. -/
structure Ent (B : PB) where
  L : Lay
  l : B.Lt
  st : St

def entCell (B : PB) (e : Ent B) : List Value := [.pointer (some ⟨B.g e.l, 0, none⟩), .pointer (some ⟨e.L.g, 0, none⟩)]

def entCells (B : PB) (es : List (Ent B)) : List Value := es.flatMap (entCell B)

/-- The caller's book at block g, with its boards; all that it owns lies from base on. -/
structure Tab (B : PB) (n g base : Nat) (vb : Value) (es : List (Ent B)) (w : World) : Prop where
  gb : g < base
  bs : base ≤ w.heap.size
  c0 : w.cell? ⟨g, 0, none⟩ = some vb
  fz : ∀ j, j < 6 → w.frozen? ⟨g, j, none⟩ = false
  row : w.ownsRow base 47 2 vb es.length (entCells B es)
  each : ∀ (i : Nat) (e : Ent B), es[i]? = some e → Both B n e.L e.l e.st w
  own : ∀ (i : Nat) (e : Ent B), es[i]? = some e → ∀ k, bothOwn B e.L e.l k → base ≤ k ∧ vb.ownBlock ≠ some k
  apart : ∀ (i j : Nat) (e e' : Ent B), i ≠ j → es[i]? = some e → es[j]? = some e' → ∀ k, bothOwn B e.L e.l k → ¬ bothOwn B e'.L e'.l k
  rest : ∃ (ρ : Nat → Nat) (s : Ls), BookL g base ρ s w ∧ (∀ k, vb.ownBlock = some k → ρ k = 0) ∧ (∀ (i : Nat) (e : Ent B), es[i]? = some e → ∀ k, bothOwn B e.L e.l k → ρ k = 0) ∧ (s.ws.length + s.se.length) * 1048576 ≤ n ∧ s.le.length * 1048576 ≤ n ∧ (s.m + s.ws.length) * 524288 ≤ n

theorem row_block {w : World} {base : Nat} {e : TypeId} {size : Nat} {v : Value} {n : Nat} {xs : List Value} (h : w.ownsRow base e size v n xs) {k : Nat} (hk : v.ownBlock = some k) : base ≤ k ∧ k < w.heap.size := by
  rcases h.2 with ⟨hv, _⟩ | ⟨g1, cap1, cur1, hv, hb, hg1, _⟩
  · rw [hv] at hk; cases hk
  · rw [hv] at hk
    cases hk
    exact ⟨hb, (Array.getElem?_eq_some_iff.1 hg1).1⟩

theorem Tab.ne {B : PB} {n g base : Nat} {vb : Value} {es : List (Ent B)} {w : World} (h : Tab B n g base vb es w) : vb.ownBlock ≠ some g := fun e => by
  have := (row_block h.row e).1
  have := h.gb
  omega

/-- Where nothing of it was touched it stands. -/
theorem Tab.quiet {B : PB} (hB : PBok B) {n g base : Nat} {vb : Value} {es : List (Ent B)} {w w' : World} (h : Tab B n g base vb es w) (hk : Kept (fun _ => False) w w') : Tab B n g base vb es w' :=
  have hgl : g < w.heap.size := lt_of_cell h.c0
  ⟨h.gb, Nat.le_trans h.bs hk.size, by rw [hk.cell hgl (fun x => x)]; exact h.c0, fun j hj => by rw [hk.frozen hgl (fun x => x)]; exact h.fz j hj,
    ownsRow_same h.row (fun k hk2 => hk.block k (row_block h.row hk2).2 (fun x => x)), fun i e he => (h.each i e he).kept hB hk (fun _ _ x => x), h.own, h.apart, by
      obtain ⟨ρ, s, h1, h2⟩ := h.rest
      exact ⟨ρ, s, h1.kept hk (fun x => x) (fun k x => x.elim), h2⟩⟩

/-- Later. -/
theorem Tab.later {B : PB} (hB : PBok B) {n m g base : Nat} {vb : Value} {es : List (Ent B)} {w : World} (h : Tab B n g base vb es w) (hm : n ≤ m) : Tab B m g base vb es w :=
  ⟨h.gb, h.bs, h.c0, h.fz, h.row, fun i e he => (h.each i e he).more hB hm, h.own, h.apart, by
    obtain ⟨ρ, s, h1, h2, h3, h4, h5, h6⟩ := h.rest
    exact ⟨ρ, s, h1, h2, h3, Nat.le_trans h4 hm, Nat.le_trans h5 hm, Int.le_trans h6 (Int.ofNat_le.2 hm)⟩⟩

theorem entCells_set {B : PB} (es : List (Ent B)) (i : Nat) (e e' : Ent B) (he : es[i]? = some e) (hc : entCell B e' = entCell B e) : entCells B (es.set i e') = entCells B es := by
  unfold entCells
  induction es generalizing i with
  | nil => rfl
  | cons a r ih =>
    cases i with
    | zero =>
      simp only [List.getElem?_cons_zero, Option.some.injEq] at he
      subst he
      simp only [List.set_cons_zero, List.flatMap_cons, hc]
    | succ i =>
      simp only [List.getElem?_cons_succ] at he
      simp only [List.set_cons_succ, List.flatMap_cons, ih i he]

/-- One pair has gone on. -/
theorem Tab.gone {B : PB} (hB : PBok B) {n m g base : Nat} (hnm : n ≤ m) {vb : Value} {es : List (Ent B)} {w w' : World} (h : Tab B n g base vb es w) {i : Nat} {e : Ent B} (he : es[i]? = some e) {l' : B.Lt} {st' : St} (hg : Gone B m e.L e.l w w' l' st') : Tab B m g base vb (es.set i ⟨e.L, l', st'⟩) w' := by
  have hlt : i < es.length := (List.getElem?_eq_some_iff.1 he).1
  have hgl : g < w.heap.size := lt_of_cell h.c0
  have hog : ¬ bothOwn B e.L e.l g := fun x => by have := (h.own i e he g x).1; have := h.gb; omega
  have hlen : (es.set i ⟨e.L, l', st'⟩).length = es.length := List.length_set
  have get : ∀ j x, (es.set i ⟨e.L, l', st'⟩)[j]? = some x → (j = i ∧ x = ⟨e.L, l', st'⟩) ∨ (j ≠ i ∧ es[j]? = some x) := fun j x hx => by
    rw [List.getElem?_set] at hx
    by_cases hij : i = j
    · rw [if_pos hij, if_pos hlt] at hx
      exact Or.inl ⟨hij.symm, (Option.some.inj hx).symm⟩
    · rw [if_neg hij] at hx
      exact Or.inr ⟨fun e => hij e.symm, hx⟩
  have hown' : ∀ k, bothOwn B e.L l' k → bothOwn B e.L e.l k ∨ w.heap.size ≤ k := fun k hk => by
    rcases hk with hk | hk
    · exact Or.inl (Or.inl hk)
    · rcases hg.own k hk with x | x
      · exact Or.inl (Or.inr x)
      · exact Or.inr x
  refine ⟨h.gb, Nat.le_trans h.bs hg.kept.size, by rw [hg.kept.cell hgl hog]; exact h.c0, fun j hj => by rw [hg.kept.frozen hgl hog]; exact h.fz j hj, ?_, ?_, ?_, ?_, ?_⟩
  · rw [hlen, entCells_set es i e ⟨e.L, l', st'⟩ he (by unfold entCell; rw [hg.g])]
    exact ownsRow_same h.row (fun k hk2 => hg.kept.block k (row_block h.row hk2).2 (fun x => (h.own i e he k x).2 hk2))
  · intro j x hx
    rcases get j x hx with ⟨rfl, rfl⟩ | ⟨hne, hx'⟩
    · exact hg.both
    · exact ((h.each j x hx').kept hB hg.kept (fun k hk => h.apart j i x e hne hx' he k hk)).more hB hnm
  · intro j x hx k hk
    rcases get j x hx with ⟨rfl, rfl⟩ | ⟨hne, hx'⟩
    · rcases hown' k hk with y | y
      · exact h.own j e he k y
      · refine ⟨Nat.le_trans h.bs y, fun e2 => ?_⟩
        have := (row_block h.row e2).2
        omega
    · exact h.own j x hx' k hk
  · intro j1 j2 x1 x2 hne h1 h2 k hk1 hk2
    rcases get j1 x1 h1 with ⟨rfl, rfl⟩ | ⟨hn1, h1'⟩
    · rcases get j2 x2 h2 with ⟨rfl, rfl⟩ | ⟨hn2, h2'⟩
      · exact hne rfl
      · rcases hown' k hk1 with y | y
        · exact h.apart j1 j2 e x2 hne he h2' k y hk2
        · have := (h.each j2 x2 h2').lt hB hk2
          omega
    · rcases get j2 x2 h2 with ⟨rfl, rfl⟩ | ⟨hn2, h2'⟩
      · rcases hown' k hk2 with y | y
        · exact h.apart j1 j2 x1 e hne h1' he k hk1 y
        · have := (h.each j1 x1 h1').lt hB hk1
          omega
      · exact h.apart j1 j2 x1 x2 hne h1' h2' k hk1 hk2
  · obtain ⟨ρ, s, h1, h2, h3, h4, h5, h6⟩ := h.rest
    refine ⟨ρ, s, h1.kept hg.kept hog (fun k hk => h3 i e he k hk), h2, fun j x hx k hk => ?_, Nat.le_trans h4 hnm, Nat.le_trans h5 hnm, Int.le_trans h6 (Int.ofNat_le.2 hnm)⟩
    rcases get j x hx with ⟨rfl, rfl⟩ | ⟨hne, hx'⟩
    · rcases hown' k hk with y | y
      · exact h3 j e he k y
      · exact Classical.byContradiction fun z => by have := (h1.lo k z).2; omega
    · exact h3 j x hx' k hk

/-- One pair more. -/
theorem Tab.more {B : PB} (hB : PBok B) {n g base : Nat} {vb : Value} {es : List (Ent B)} {w w' : World} (h : Tab B n g base vb es w) {l : B.Lt} {L : Lay} {st : St} {g' cap : Nat} (hb : Both B 0 L l st w') (hf : ∀ k, bothOwn B L l k → w.heap.size ≤ k ∧ k ≠ g')
    (c0 : w'.cell? ⟨g, 0, none⟩ = some (.slice (some ⟨g', 0, none⟩) (es.length + 1) cap))
    (hrow : w'.ownsRow base 47 2 (.slice (some ⟨g', 0, none⟩) (es.length + 1) cap) (es.length + 1) (entCells B es ++ [.pointer (some ⟨B.g l, 0, none⟩), .pointer (some ⟨L.g, 0, none⟩)]))
    (hat : vb.ownBlock = some g' ∨ w.heap.size ≤ g') (hfz : ∀ j, w'.frozen? ⟨g, j, none⟩ = w.frozen? ⟨g, j, none⟩) (hco : ∀ j, j ≠ 0 → w'.cell? ⟨g, j, none⟩ = w.cell? ⟨g, j, none⟩) (hk : Kept (fun k => k = g ∨ vb.ownBlock = some k) w w') :
    Tab B n g base (.slice (some ⟨g', 0, none⟩) (es.length + 1) cap) (es ++ [⟨L, l, st⟩]) w' := by
  have get : ∀ j x, (es ++ [(⟨L, l, st⟩ : Ent B)])[j]? = some x → (j = es.length ∧ x = ⟨L, l, st⟩) ∨ (j < es.length ∧ es[j]? = some x) := fun j x hx => by
    rw [List.getElem?_append] at hx
    by_cases hj : j < es.length
    · rw [if_pos hj] at hx; exact Or.inr ⟨hj, hx⟩
    · rw [if_neg hj] at hx
      have h0 : j - es.length = 0 := by
        have := (List.getElem?_eq_some_iff.1 hx).1
        simp at this
        omega
      rw [h0] at hx
      simp at hx
      exact Or.inl ⟨by omega, hx.symm⟩
  have notS : ∀ (i : Nat) (e : Ent B), es[i]? = some e → ∀ k, bothOwn B e.L e.l k → ¬ (k = g ∨ vb.ownBlock = some k) := fun i e he k hk2 x => by
    have h1 := h.own i e he k hk2
    rcases x with x | x
    · have := h.gb; omega
    · exact h1.2 x
  refine ⟨h.gb, Nat.le_trans h.bs hk.size, c0, fun j hj => (hfz j).trans (h.fz j hj), ?_, ?_, ?_, ?_, ?_⟩
  · have e1 : (es ++ [(⟨L, l, st⟩ : Ent B)]).length = es.length + 1 := by simp
    have e2 : entCells B (es ++ [(⟨L, l, st⟩ : Ent B)]) = entCells B es ++ [.pointer (some ⟨B.g l, 0, none⟩), .pointer (some ⟨L.g, 0, none⟩)] := by
      unfold entCells
      rw [List.flatMap_append]
      rfl
    rw [e1, e2]
    exact hrow
  · intro j x hx
    rcases get j x hx with ⟨_, rfl⟩ | ⟨_, hx'⟩
    · exact hb.more hB (Nat.zero_le _)
    · exact (h.each j x hx').kept hB hk (notS j x hx')
  · intro j x hx k hk2
    rcases get j x hx with ⟨_, rfl⟩ | ⟨_, hx'⟩
    · have h1 := hf k hk2
      refine ⟨Nat.le_trans h.bs h1.1, fun e => ?_⟩
      have e' : g' = k := Option.some.inj e
      exact h1.2 e'.symm
    · refine ⟨(h.own j x hx' k hk2).1, fun e => ?_⟩
      have e' : g' = k := Option.some.inj e
      subst e'
      rcases hat with y | y
      · exact (h.own j x hx' g' hk2).2 y
      · have := (h.each j x hx').lt hB hk2
        omega
  · intro j1 j2 x1 x2 hne h1 h2 k hk1 hk2
    rcases get j1 x1 h1 with ⟨q1, rfl⟩ | ⟨q1, h1'⟩
    · rcases get j2 x2 h2 with ⟨q2, rfl⟩ | ⟨q2, h2'⟩
      · omega
      · have := (hf k hk1).1
        have := (h.each j2 x2 h2').lt hB hk2
        omega
    · rcases get j2 x2 h2 with ⟨q2, rfl⟩ | ⟨q2, h2'⟩
      · have := (hf k hk2).1
        have := (h.each j1 x1 h1').lt hB hk1
        omega
      · exact h.apart j1 j2 x1 x2 hne h1' h2' k hk1 hk2
  · obtain ⟨ρ, s, q1, q2, q3, q4, q5, q6⟩ := h.rest
    have hnew : ∀ k, w.heap.size ≤ k → ρ k = 0 := fun k hk2 => Classical.byContradiction fun z => by have := (q1.lo k z).2; omega
    refine ⟨ρ, s, q1.same (fun k hk2 => hk.block k (q1.lo k hk2).2 (fun x => by
      rcases x with x | x
      · have := (q1.lo k hk2).1; have := h.gb; omega
      · exact hk2 (q2 k x))) (fun j j1 _ => hco j (by omega)) (fun j _ _ => hfz j) hk.size, fun k hk2 => ?_, fun j x hx k hk2 => ?_, q4, q5, q6⟩
    · have e : g' = k := Option.some.inj hk2
      subst e
      rcases hat with y | y
      · exact q2 g' y
      · exact hnew g' y
    · rcases get j x hx with ⟨_, rfl⟩ | ⟨_, hx'⟩
      · exact hnew k (hf k hk2).1
      · exact q3 j x hx' k hk2

end Go.Proofs.YtikdbpphbdbdnaaGreat
