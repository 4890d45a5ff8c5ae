/- The table after a run of one of its pairs, and after the lists that waited were looked through. -/
import Derived.Test.YtikdbpphbdbdnaaGreatTableM
namespace Go.Proofs.YtikdbpphbdbdnaaGreat
open Go.RowKit
set_option linter.unusedVariables false

theorem bud1 {a b n m : Nat} (h : (a + b) * 1048576 ≤ n) (hm : n + 1048576 ≤ m) : (a + 1 + b) * 1048576 ≤ m := by
  have e : (a + 1 + b) * 1048576 = (a + b) * 1048576 + 1048576 := by rw [Nat.add_right_comm, Nat.add_mul _ 1, Nat.one_mul]
  rw [e]
  exact Nat.le_trans (Nat.add_le_add_right h _) hm
theorem bud2 {a b n m : Nat} (h : a * 1048576 ≤ n) (hb : b ≤ a + 1) (hm : n + 1048576 ≤ m) : b * 1048576 ≤ m := by
  refine Nat.le_trans (Nat.mul_le_mul_right _ hb) ?_
  rw [Nat.add_mul _ 1, Nat.one_mul]
  exact Nat.le_trans (Nat.add_le_add_right h _) hm
theorem bud3 {a c : Int} {b n m : Nat} (h : (a + b) * 524288 ≤ n) (hc : c ≤ a + 1) (hm : n + 1048576 ≤ m) : (c + (b + 1 : Nat)) * 524288 ≤ m := by omega
theorem bud4 {a : Int} {b n : Nat} (h : (a + b) * 524288 ≤ n) : (a + b + (0 : Nat)) * 524288 ≤ n := by omega
theorem bud5 {a b n : Nat} (h : (a + b) * 1048576 ≤ n) (hn : n ≤ 2199023255552) : b + a ≤ 2097152 := by omega
theorem bud6 {a : Int} {b n : Nat} (h : (a + b) * 524288 ≤ n) (hn : n ≤ 2199023255552) : a + b ≤ 4611686018427387904 := by omega
theorem bud7 {a n : Nat} (h : a * 1048576 ≤ n) (hn : n ≤ 2199023255552) : a ≤ 2097152 := by omega

/-- One pair has run. -/
theorem Tab.ran {B : PB} (hB : PBok B) {n m g base : Nat} (hnm : n + 1048576 ≤ m) {vb : Value} {es : List (Ent B)} {w w' : World} (h : Tab B n g base vb es w) {ρ : Nat → Nat} {s : Ls} (q1 : BookL g base ρ s w) (q2 : ∀ k, vb.ownBlock = some k → ρ k = 0) (q3 : ∀ (i : Nat) (e : Ent B), es[i]? = some e → ∀ k, bothOwn B e.L e.l k → ρ k = 0) (q4 : (s.ws.length + s.se.length) * 1048576 ≤ n) (q5 : s.le.length * 1048576 ≤ n) (q6 : (s.m + s.ws.length) * 524288 ≤ n)
    {i : Nat} {e : Ent B} (he : es[i]? = some e) (hr : RunsPost B m g base ρ s e.L e.l w w') : ∃ es' : List (Ent B), Tab B m g base vb es' w' ∧ es'.length = es.length ∧ Kept (fun k => k = g ∨ base ≤ k) w w' := by
  obtain ⟨ρ', s', l', st', u1, u2, u3, u4, u5, u6, u7, u8, u9, u10, u11, u12, u13⟩ := hr
  have hle : n ≤ m := Nat.le_trans (Nat.le_add_right _ _) hnm
  have hlt : i < es.length := (List.getElem?_eq_some_iff.1 he).1
  have hlen : (es.set i ⟨e.L, l', st'⟩).length = es.length := List.length_set
  have get : ∀ j x, (es.set i ⟨e.L, l', st'⟩)[j]? = some x → (j = i ∧ x = ⟨e.L, l', st'⟩) ∨ (j ≠ i ∧ es[j]? = some x) := fun j x hx => by
    rw [List.getElem?_set] at hx
    by_cases hij : i = j
    · rw [if_pos hij, if_pos hlt] at hx
      exact Or.inl ⟨hij.symm, (Option.some.inj hx).symm⟩
    · rw [if_neg hij] at hx
      exact Or.inr ⟨fun e => hij e.symm, hx⟩
  have hown' : ∀ k, bothOwn B e.L l' k → bothOwn B e.L e.l k ∨ w.heap.size ≤ k := fun k hk => by
    rcases hk with hk | hk
    · exact Or.inl (Or.inl hk)
    · rcases u4 k hk with x | x
      · exact Or.inl (Or.inr x)
      · exact Or.inr x
  have notS : ∀ j x, j ≠ i → es[j]? = some x → ∀ k, bothOwn B x.L x.l k → ¬ (k = g ∨ ρ k ≠ 0 ∨ bothOwn B e.L e.l k) := fun j x hne hx k hk y => by
    rcases y with y | y | y
    · have h1 := (h.own j x hx k hk).1
      have h2 := h.gb
      omega
    · exact y (q3 j x hx k hk)
    · exact h.apart j i x e hne hx he k hk y
  have z := u7.size
  refine ⟨es.set i ⟨e.L, l', st'⟩, ⟨h.gb, Nat.le_trans h.bs z, u12.trans h.c0, fun j hj => ?_, ?_, ?_, ?_, ?_, ρ', s', u1, ?_, ?_, ?_, ?_, ?_⟩, hlen, u7.wide fun k hk => ?_⟩
  · by_cases j0 : j = 0
    · subst j0; exact u13.trans (h.fz 0 hj)
    · exact u1.fz j (by omega) hj
  · rw [hlen, entCells_set es i e ⟨e.L, l', st'⟩ he (by unfold entCell; rw [u2])]
    refine ownsRow_same h.row (fun k hk2 => u7.block k (row_block h.row hk2).2 (fun x => ?_))
    rcases x with x | x | x
    · have h1 := (row_block h.row hk2).1
      have h2 := h.gb
      omega
    · exact x (q2 k hk2)
    · exact (h.own i e he k x).2 hk2
  · intro j x hx
    rcases get j x hx with ⟨rfl, rfl⟩ | ⟨hne, hx'⟩
    · exact u3
    · exact ((h.each j x hx').kept hB u7 (notS j x hne hx')).more hB hle
  · intro j x hx k hk
    rcases get j x hx with ⟨rfl, rfl⟩ | ⟨hne, hx'⟩
    · rcases hown' k hk with y | y
      · exact h.own j e he k y
      · refine ⟨Nat.le_trans h.bs y, fun e2 => ?_⟩
        have := (row_block h.row e2).2
        omega
    · exact h.own j x hx' k hk
  · intro j1 j2 x1 x2 hne h1 h2 k hk1 hk2
    rcases get j1 x1 h1 with ⟨rfl, rfl⟩ | ⟨hn1, h1'⟩
    · rcases get j2 x2 h2 with ⟨rfl, rfl⟩ | ⟨hn2, h2'⟩
      · exact hne rfl
      · rcases hown' k hk1 with y | y
        · exact h.apart j1 j2 e x2 hne he h2' k y hk2
        · have := (h.each j2 x2 h2').lt hB hk2
          omega
    · rcases get j2 x2 h2 with ⟨rfl, rfl⟩ | ⟨hn2, h2'⟩
      · rcases hown' k hk2 with y | y
        · exact h.apart j1 j2 x1 e hne h1' he k hk1 y
        · have := (h.each j1 x1 h1').lt hB hk1
          omega
      · exact h.apart j1 j2 x1 x2 hne h1' h2' k hk1 hk2
  · exact fun k hk => u6 k (row_block h.row hk).2 (q2 k hk)
  · intro j x hx k hk
    rcases get j x hx with ⟨rfl, rfl⟩ | ⟨hne, hx'⟩
    · exact u5 k hk
    · exact u6 k ((h.each j x hx').lt hB hk) (q3 j x hx' k hk)
  · rw [u8, u9]
    exact bud1 q4 hnm
  · exact bud2 q5 u10 hnm
  · rw [u8]
    exact bud3 q6 u11 hnm
  · rcases hk with x | x | x
    · exact Or.inl x
    · exact Or.inr (q1.lo k x).1
    · exact Or.inr (h.own i e he k x).1

/-- The lists that waited were looked through. -/
theorem Tab.settled {B : PB} (hB : PBok B) {n g base : Nat} {vb : Value} {es : List (Ent B)} {w w' : World} (h : Tab B n g base vb es w) {ρ : Nat → Nat} {s : Ls} (q1 : BookL g base ρ s w) (q2 : ∀ k, vb.ownBlock = some k → ρ k = 0) (q3 : ∀ (i : Nat) (e : Ent B), es[i]? = some e → ∀ k, bothOwn B e.L e.l k → ρ k = 0) (q4 : (s.ws.length + s.se.length) * 1048576 ≤ n) (q5 : s.le.length * 1048576 ≤ n) (q6 : (s.m + s.ws.length) * 524288 ≤ n)
    (hr : SettlePost g base ρ s w w') : Tab B n g base vb es w' ∧ Kept (fun k => k = g ∨ base ≤ k) w w' := by
  obtain ⟨ρ', s', u1, u2, u3, u4, u5, u6, u7, u12, u13⟩ := hr
  have notS : ∀ (j : Nat) (x : Ent B), es[j]? = some x → ∀ k, bothOwn B x.L x.l k → ¬ (k = g ∨ ρ k ≠ 0) := fun j x hx k hk y => by
    rcases y with y | y
    · have h1 := (h.own j x hx k hk).1
      have h2 := h.gb
      omega
    · exact y (q3 j x hx k hk)
  refine ⟨⟨h.gb, Nat.le_trans h.bs u7.size, u12.trans h.c0, fun j hj => ?_, ?_, fun j x hx => (h.each j x hx).kept hB u7 (notS j x hx), h.own, h.apart, ρ', s', u1, ?_, ?_, ?_, ?_, ?_⟩, u7.wide fun k hk => ?_⟩
  · by_cases j0 : j = 0
    · subst j0; exact u13.trans (h.fz 0 hj)
    · exact u1.fz j (by omega) hj
  · refine ownsRow_same h.row (fun k hk2 => u7.block k (row_block h.row hk2).2 (fun x => ?_))
    rcases x with x | x
    · have h1 := (row_block h.row hk2).1
      have h2 := h.gb
      omega
    · exact x (q2 k hk2)
  · exact fun k hk => u6 k (row_block h.row hk).2 (q2 k hk)
  · exact fun j x hx k hk => u6 k ((h.each j x hx).lt hB hk) (q3 j x hx k hk)
  · rw [u2, u3, List.length_nil, Nat.zero_add, Nat.add_comm]
    exact q4
  · rw [u4]; exact q5
  · rw [u2, u5, List.length_nil]
    exact bud4 q6
  · rcases hk with x | x
    · exact Or.inl x
    · exact Or.inr (q1.lo k x).1

theorem settle_book {B : PB} (hB : PBok B) {cy g base : Nat} {vb : Value} {es : List (Ent B)} {w : World} (h : Tab B cy g base vb es w) (hcy : cy ≤ 2199023255552) :
    Calls Tryz.prog 10 #[.pointer (some ⟨g, 0, none⟩)] w fun e w' => e = .returned (.bool true) ∧ Tab B cy g base vb es w' ∧ Kept (fun k => k = g ∨ base ≤ k) w w' := by
  obtain ⟨ρ, s, q1, q2, q3, q4, q5, q6⟩ := h.rest
  exact (settle_any q1 (bud5 q4 hcy) (bud6 q6 hcy)).mono fun e w' ⟨he, hp⟩ => ⟨he, h.settled hB q1 q2 q3 q4 q5 q6 hp⟩

theorem looks_book {B : PB} (hB : PBok B) {cy g base : Nat} {vb : Value} {es : List (Ent B)} {w : World} (h : Tab B cy g base vb es w) (hcy : cy ≤ 2199023255552) :
    Calls Tryz.prog 11 #[.pointer (some ⟨g, 0, none⟩)] w fun e w' => e = .returned (.bool true) ∧ Tab B cy g base vb es w' ∧ Kept (fun k => k = g ∨ base ≤ k) w w' := by
  obtain ⟨ρ, s, q1, q2, q3, q4, q5, q6⟩ := h.rest
  have b0 := bud5 q4 hcy
  have b3 := bud7 q5 hcy
  have b1 : s.se.length ≤ maxLen := Nat.le_trans (Nat.le_trans (Nat.le_add_right _ _) b0) (by unfold maxLen; omega)
  have b2 : s.le.length ≤ maxLen := Nat.le_trans b3 (by unfold maxLen; omega)
  exact (looks_any q1 b1 b2).mono fun e w' ⟨he, hk⟩ => ⟨he, h.quiet hB hk, hk.wide (fun _ x => x.elim)⟩

end Go.Proofs.YtikdbpphbdbdnaaGreat
