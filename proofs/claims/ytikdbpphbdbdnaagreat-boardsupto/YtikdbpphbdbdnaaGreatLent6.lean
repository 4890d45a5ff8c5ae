/- The book with one list more: handed in, or come out. -/
import Derived.Test.YtikdbpphbdbdnaaGreatLent5
namespace Go.Proofs.YtikdbpphbdbdnaaGreat
open Go.RowKit
set_option linter.unusedVariables false

/-- Inputs that all are this one, read. -/
theorem insRaw_marked {w : World} {b n : Nat} {k : Int} (h : InsRaw w b n (fun _ => ⟨false, k, 0⟩)) : MarkedI w b n k := fun i hi => by
  have q : ∀ t, t < 3 → w.cell? ⟨b, i * 3 + t, none⟩ = some (inCell ⟨false, k, 0⟩ t) := fun t ht => by
    have h1 := (h (i * 3 + t) (by omega)).1
    dsimp only at h1
    rw [show (i * 3 + t) % 3 = t by omega] at h1
    exact h1
  exact ⟨q 0 (by omega), q 1 (by omega), q 2 (by omega)⟩

/-- A list that was handed in is in the book now. -/
theorem BookL.lent {g base : Nat} {ρ : Nat → Nat} {s : Ls} {w w' : World} {B n g' cap' : Nat} (h : BookL g base ρ s w) (hB0 : ρ B = 0) (hBb : base ≤ B) (hBz : B < w.heap.size) (hn : n ≤ 1048584)
    (hr : InsRaw w' B n (fun _ => ⟨false, -(s.m + 1), 0⟩)) (c1 : w'.cell? ⟨g, 1, none⟩ = some (.int .i64 (s.m + 1))) (c5 : w'.cell? ⟨g, 5, none⟩ = some (.slice (some ⟨g', 0, none⟩) (s.le.length + 1) cap'))
    (ho : w'.ownsRow base 59 4 (.slice (some ⟨g', 0, none⟩) (s.le.length + 1) cap') (s.le.length + 1) (s.le.flatMap lentCell ++ [.bool false, .int .i64 (-(s.m + 1)), .int .u8 0, .slice (some ⟨B, 0, none⟩) n n])) (hat : s.vl.ownBlock = some g' ∨ w.heap.size ≤ g')
    (hk : Kept (fun k => k = g ∨ k = B ∨ s.vl.ownBlock = some k) w w') (hco : ∀ j, j ≠ 1 → j ≠ 5 → w'.cell? ⟨g, j, none⟩ = w.cell? ⟨g, j, none⟩) (hfo : ∀ j, w'.frozen? ⟨g, j, none⟩ = w.frozen? ⟨g, j, none⟩) :
    ∃ ρ' s', BookL g base ρ' s' w' ∧ s'.ws = s.ws ∧ s'.vw = s.vw ∧ s'.vr = s.vr ∧ s'.se = s.se ∧ s'.le.length = s.le.length + 1 ∧ s'.m = s.m + 1 ∧ (∀ k, k < w.heap.size → k ≠ B → ρ k = 0 → ρ' k = 0) := by
  have hgb := h.gb
  have hgz := lt_of_cell h.c1
  have hz := hk.size
  have hvl : ∀ k, s.vl.ownBlock = some k → k < w.heap.size ∧ ρ k = 5 := fun k hk2 => ⟨(h.lo k (by rw [h.bl k hk2]; omega)).2, h.bl k hk2⟩
  have hg' : base ≤ g' ∧ g' < w'.heap.size := ho.lt g' rfl
  have hg'r : g' < w.heap.size ∧ ρ g' = 5 ∨ w.heap.size ≤ g' := by
    rcases hat with x | x
    · exact Or.inl (hvl g' x)
    · exact Or.inr x
  have hb : ∀ k, ρ k ≠ 0 → ρ k ≠ 5 → w'.heap[k]? = w.heap[k]? := fun k q0 q5 => hk.block k (h.lo k q0).2 (fun x => by
    rcases x with x | x | x
    · have := h.lo k q0; omega
    · rw [x] at q0; exact q0 hB0
    · exact q5 (hvl k x).2)
  have hrole : ∀ k, ρ k ≠ 0 → ρ k ≠ 5 → (if k = B then 1 else if k = g' then 5 else ρ k) = ρ k := fun k q0 q5 => by
    have n1 : ¬ k = B := fun x => by rw [x] at q0; exact q0 hB0
    have n2 : ¬ k = g' := fun x => by
      rcases hg'r with y | y
      · rw [x] at q5; exact q5 y.2
      · have := (h.lo k q0).2; omega
    rw [if_neg n1, if_neg n2]
  have q1 : ∀ k, ρ k = 1 → (if k = B then 1 else if k = g' then 5 else ρ k) = 1 := fun k hk2 => by rw [hrole k (by omega) (by omega)]; exact hk2
  refine ⟨fun k => if k = B then 1 else if k = g' then 5 else ρ k, { s with m := s.m + 1, vl := .slice (some ⟨g', 0, none⟩) (s.le.length + 1) cap', le := s.le ++ [⟨-(s.m + 1), B, n⟩] }, ⟨hgb, ?_, c1, (hco 2 (by omega) (by omega)).trans h.c2, (hco 3 (by omega) (by omega)).trans h.c3, (hco 4 (by omega) (by omega)).trans h.c4, c5, fun j j1 j6 => (hfo j).trans (h.fz j j1 j6), ?_, ?_, ?_, ?_, ?_, ?_, ?_, ?_, ?_, ?_, ?_, ?_⟩, rfl, rfl, rfl, rfl, by simp, rfl, ?_⟩
  · intro k hk2
    by_cases x : k = B
    · subst x; exact ⟨hBb, by omega⟩
    · by_cases y : k = g'
      · subst y; exact hg'
      · simp only [if_neg x, if_neg y] at hk2
        have := h.lo k hk2
        exact ⟨this.1, by omega⟩
  · exact ownsRow_same h.rw (fun k hk2 => by have r := h.bw k hk2; exact hb k (by omega) (by omega))
  · exact ownsRow_same h.rr (fun k hk2 => by have r := h.br k hk2; exact hb k (by omega) (by omega))
  · exact ownsRow_same h.rs (fun k hk2 => by have r := h.bs k hk2; exact hb k (by omega) (by omega))
  · have el : (s.le ++ [(⟨-(s.m + 1), B, n⟩ : LentE)]).length = s.le.length + 1 := by simp
    have ef : (s.le ++ [(⟨-(s.m + 1), B, n⟩ : LentE)]).flatMap lentCell = s.le.flatMap lentCell ++ [.bool false, .int .i64 (-(s.m + 1)), .int .u8 0, .slice (some ⟨B, 0, none⟩) n n] := by simp [lentCell]
    try dsimp only
    rw [el, ef]
    exact ho
  · intro k hk2
    have r := h.bw k hk2
    try dsimp only
    rw [hrole k (by omega) (by omega)]
    exact r
  · intro k hk2
    have r := h.br k hk2
    try dsimp only
    rw [hrole k (by omega) (by omega)]
    exact r
  · intro k hk2
    have r := h.bs k hk2
    try dsimp only
    rw [hrole k (by omega) (by omega)]
    exact r
  · intro k hk2
    have x : g' = k := Option.some.inj hk2
    subst x
    try dsimp only
    have n1 : ¬ g' = B := fun y => by
      rcases hg'r with z | z
      · rw [y, hB0] at z; omega
      · omega
    rw [if_neg n1, if_pos rfl]
  · intro i e he
    obtain ⟨r, n', cy, v, b⟩ := h.ew i e he
    have hv1 : ∀ k, e.v.ownBlock = some k → w'.heap[k]? = w.heap[k]? := fun k hk2 => by have r2 := b k hk2; exact hb k (by omega) (by omega)
    refine ⟨(hrole _ (by omega) (by omega)).trans r, n', fun k hk2 => ?_, ownsRow_same v hv1, fun k hk2 => q1 k (b k hk2)⟩
    have q := hb e.c (by omega) (by omega)
    exact ⟨(World.cell?_of_block (w := w) (a := ⟨e.c, k, none⟩) q).trans (cy k hk2).1, (World.frozen?_of_block (w := w) (a := ⟨e.c, k, none⟩) q).trans (cy k hk2).2⟩
  · intro i e he
    obtain ⟨r0, r1, r2, r3, n', m0, m1, m2, m3⟩ := h.es i e he
    exact ⟨q1 _ r0, q1 _ r1, q1 _ r2, q1 _ r3, n', m0.same (hb _ (by omega) (by omega)), m1.same (hb _ (by omega) (by omega)), m2.same (hb _ (by omega) (by omega)), m3.same (hb _ (by omega) (by omega))⟩
  · intro i e he
    try dsimp only at he
    rw [List.getElem?_append] at he
    by_cases hi : i < s.le.length
    · rw [if_pos hi] at he
      obtain ⟨r, n', m'⟩ := h.el i e he
      exact ⟨q1 _ r, n', m'.same (hb _ (by omega) (by omega))⟩
    · rw [if_neg hi] at he
      have h0 : i - s.le.length = 0 := by
        have := (List.getElem?_eq_some_iff.1 he).1
        simp at this
        omega
      rw [h0] at he
      simp at he
      subst he
      exact ⟨if_pos rfl, hn, insRaw_marked hr⟩
  · have := h.m0
    try dsimp only
    omega
  · intro k hk2 hkB hk0
    try dsimp only
    have n2 : ¬ k = g' := fun x => by
      rcases hg'r with y | y
      · rw [x] at hk0; omega
      · omega
    rw [if_neg hkB, if_neg n2]
    exact hk0

/-- A list that came out is in the book now. -/
theorem BookL.wait {g base : Nat} {ρ : Nat → Nat} {s : Ls} {w w' : World} {c n : Nat} {cy : Nat → Cy} (h : BookL g base ρ s w) (hc0 : ρ c = 0) (hcb : base ≤ c) (hcz : c < w.heap.size) (hn : n ≤ 1048576) (hcy : CysAt w c n cy)
    (hp : KeepPost g base c n s.ws.length s.vw s.vr (s.ws.map waitCell) (s.ws.map (·.v)) cy w w') :
    ∃ ρ' s', BookL g base ρ' s' w' ∧ s'.ws.length = s.ws.length + 1 ∧ s'.se = s.se ∧ s'.le = s.le ∧ s'.m = s.m ∧ (∀ k, k < w.heap.size → k ≠ c → ρ k = 0 → ρ' k = 0) ∧ Kept (fun k => k = g ∨ ρ k ≠ 0) w w' := by
  obtain ⟨gw, cw, gr, cr, v, d2, d3, o2, o3, ov, hatw, hatr, hne, hvk, hk, hco, hfo⟩ := hp
  have hgb := h.gb
  have hgz := lt_of_cell h.c1
  have hz := hk.size
  have hvw : ∀ k, s.vw.ownBlock = some k → k < w.heap.size ∧ ρ k = 2 := fun k hk2 => ⟨(h.lo k (by rw [h.bw k hk2]; omega)).2, h.bw k hk2⟩
  have hvr : ∀ k, s.vr.ownBlock = some k → k < w.heap.size ∧ ρ k = 3 := fun k hk2 => ⟨(h.lo k (by rw [h.br k hk2]; omega)).2, h.br k hk2⟩
  have hgw : base ≤ gw ∧ gw < w'.heap.size := o2.lt gw rfl
  have hgr : base ≤ gr ∧ gr < w'.heap.size := o3.lt gr rfl
  have hgwr : gw < w.heap.size ∧ ρ gw = 2 ∨ w.heap.size ≤ gw := hatw.elim (fun x => Or.inl (hvw gw x)) Or.inr
  have hgrr : gr < w.heap.size ∧ ρ gr = 3 ∨ w.heap.size ≤ gr := hatr.elim (fun x => Or.inl (hvr gr x)) Or.inr
  have hvb : ∀ k, v.ownBlock = some k → w.heap.size ≤ k ∧ k < w'.heap.size := fun k hk2 => ov.lt k hk2
  have hb : ∀ k, ρ k ≠ 0 → ρ k ≠ 2 → ρ k ≠ 3 → w'.heap[k]? = w.heap[k]? := fun k q0 q2 q3 => hk.block k (h.lo k q0).2 (fun x => by
    rcases x with x | x | x
    · have := h.lo k q0; omega
    · exact q2 (hvw k x).2
    · exact q3 (hvr k x).2)
  have hbc : w'.heap[c]? = w.heap[c]? := hk.block c hcz (fun x => by
    rcases x with x | x | x
    · omega
    · have := (hvw c x).2; omega
    · have := (hvr c x).2; omega)
  obtain ⟨ρ', hρ'⟩ : ∃ ρ' : Nat → Nat, ρ' = fun k => if k = c then 6 + s.ws.length else if k = gw then 2 else if k = gr then 3 else if v.ownBlock = some k then 1 else ρ k := ⟨_, rfl⟩
  have hold : ∀ k, k < w.heap.size → k ≠ c → ρ k ≠ 2 → ρ k ≠ 3 → ρ' k = ρ k := fun k q0 qc q2 q3 => by
    rw [hρ']
    dsimp only
    have n1 : ¬ k = gw := fun x => by
      rcases hgwr with y | y
      · rw [x] at q2; exact q2 y.2
      · omega
    have n2 : ¬ k = gr := fun x => by
      rcases hgrr with y | y
      · rw [x] at q3; exact q3 y.2
      · omega
    have n3 : ¬ v.ownBlock = some k := fun x => by have := (hvb k x).1; omega
    rw [if_neg qc, if_neg n1, if_neg n2, if_neg n3]
  have hrole : ∀ k, ρ k ≠ 0 → ρ k ≠ 2 → ρ k ≠ 3 → ρ' k = ρ k := fun k q0 q2 q3 => hold k (h.lo k q0).2 (fun x => by rw [x] at q0; exact q0 hc0) q2 q3
  have q1 : ∀ k, ρ k = 1 → ρ' k = 1 := fun k hk2 => by rw [hrole k (by omega) (by omega) (by omega)]; exact hk2
  have rc : ρ' c = 6 + s.ws.length := by rw [hρ']; exact if_pos rfl
  have rgw : ρ' gw = 2 := by
    rw [hρ']
    dsimp only
    have n1 : ¬ gw = c := fun x => by
      rcases hgwr with y | y
      · rw [x, hc0] at y; omega
      · omega
    rw [if_neg n1, if_pos rfl]
  have rgr : ρ' gr = 3 := by
    rw [hρ']
    dsimp only
    have n1 : ¬ gr = c := fun x => by
      rcases hgrr with y | y
      · rw [x, hc0] at y; omega
      · omega
    rw [if_neg n1, if_neg (fun x => hne x.symm), if_pos rfl]
  have rv : ∀ k, v.ownBlock = some k → ρ' k = 1 := fun k hk2 => by
    rw [hρ']
    dsimp only
    have h1 := hvb k hk2
    have h2 := hvk k hk2
    rw [if_neg (by omega), if_neg h2.1, if_neg h2.2, if_pos hk2]
  refine ⟨ρ', { s with vw := .slice (some ⟨gw, 0, none⟩) (s.ws.length + 1) cw, vr := .slice (some ⟨gr, 0, none⟩) (s.ws.length + 1) cr, ws := s.ws ++ [⟨c, n, cy, v⟩] }, ⟨hgb, ?_, (hco 1 (by omega) (by omega)).trans h.c1, d2, d3, (hco 4 (by omega) (by omega)).trans h.c4, (hco 5 (by omega) (by omega)).trans h.c5, fun j j1 j6 => (hfo j).trans (h.fz j j1 j6), ?_, ?_, ?_, ?_, ?_, ?_, ?_, ?_, ?_, ?_, ?_, h.m0⟩, by simp, rfl, rfl, rfl, ?_, ?_⟩
  · intro k hk2
    by_cases x : k = c
    · subst x; exact ⟨hcb, by omega⟩
    by_cases y : k = gw
    · subst y; exact hgw
    by_cases y2 : k = gr
    · subst y2; exact hgr
    by_cases y3 : v.ownBlock = some k
    · have := hvb k y3
      have := h.lo
      exact ⟨by have := h.gb; have hbz : base ≤ w.heap.size := by omega
                omega, by omega⟩
    · rw [hρ'] at hk2
      simp only [if_neg x, if_neg y, if_neg y2, if_neg y3] at hk2
      have := h.lo k hk2
      exact ⟨this.1, by omega⟩
  · have el : (s.ws ++ [(⟨c, n, cy, v⟩ : WaitE)]).length = s.ws.length + 1 := by simp
    have ef : (s.ws ++ [(⟨c, n, cy, v⟩ : WaitE)]).map waitCell = s.ws.map waitCell ++ [.slice (some ⟨c, 0, none⟩) n n] := by simp [waitCell]
    try dsimp only
    rw [el, ef]
    exact o2
  · have el : (s.ws ++ [(⟨c, n, cy, v⟩ : WaitE)]).length = s.ws.length + 1 := by simp
    have ef : (s.ws ++ [(⟨c, n, cy, v⟩ : WaitE)]).map (·.v) = s.ws.map (·.v) ++ [v] := by simp
    try dsimp only
    rw [el, ef]
    exact o3
  · exact ownsRow_same h.rs (fun k hk2 => by have r := h.bs k hk2; exact hb k (by omega) (by omega) (by omega))
  · exact ownsRow_same h.rl (fun k hk2 => by have r := h.bl k hk2; exact hb k (by omega) (by omega) (by omega))
  · intro k hk2
    have x : gw = k := Option.some.inj hk2
    subst x
    exact rgw
  · intro k hk2
    have x : gr = k := Option.some.inj hk2
    subst x
    exact rgr
  · intro k hk2
    have r := h.bs k hk2
    rw [hrole k (by omega) (by omega) (by omega)]
    exact r
  · intro k hk2
    have r := h.bl k hk2
    rw [hrole k (by omega) (by omega) (by omega)]
    exact r
  · intro i e he
    try dsimp only at he
    rw [List.getElem?_append] at he
    by_cases hi : i < s.ws.length
    · rw [if_pos hi] at he
      obtain ⟨r, n', cy', v', b⟩ := h.ew i e he
      have hv1 : ∀ k, e.v.ownBlock = some k → w'.heap[k]? = w.heap[k]? := fun k hk2 => by have r2 := b k hk2; exact hb k (by omega) (by omega) (by omega)
      refine ⟨by rw [hrole _ (by omega) (by omega) (by omega)]; exact r, n', fun k hk2 => ?_, ownsRow_same v' hv1, fun k hk2 => q1 k (b k hk2)⟩
      have q := hb e.c (by omega) (by omega) (by omega)
      exact ⟨(World.cell?_of_block (w := w) (a := ⟨e.c, k, none⟩) q).trans (cy' k hk2).1, (World.frozen?_of_block (w := w) (a := ⟨e.c, k, none⟩) q).trans (cy' k hk2).2⟩
    · rw [if_neg hi] at he
      have h0 : i - s.ws.length = 0 := by
        have := (List.getElem?_eq_some_iff.1 he).1
        simp at this
        omega
      have hie : i = s.ws.length := by
        have := (List.getElem?_eq_some_iff.1 he).1
        simp at this
        omega
      rw [h0] at he
      simp at he
      subst he
      refine ⟨by rw [hie]; exact rc, hn, fun k hk2 => ⟨(World.cell?_of_block (w := w) (a := ⟨c, k, none⟩) hbc).trans (hcy k hk2).1, (World.frozen?_of_block (w := w) (a := ⟨c, k, none⟩) hbc).trans (hcy k hk2).2⟩, ?_, rv⟩
      refine ⟨ov.1, ?_⟩
      rcases ov.2 with x | ⟨q, cp, cur, x, y, z⟩
      · exact Or.inl x
      · exact Or.inr ⟨q, cp, cur, x, by omega, z⟩
  · intro i e he
    obtain ⟨r0, r1, r2, r3, n', m0, m1, m2, m3⟩ := h.es i e he
    exact ⟨q1 _ r0, q1 _ r1, q1 _ r2, q1 _ r3, n', m0.same (hb _ (by omega) (by omega) (by omega)), m1.same (hb _ (by omega) (by omega) (by omega)), m2.same (hb _ (by omega) (by omega) (by omega)), m3.same (hb _ (by omega) (by omega) (by omega))⟩
  · intro i e he
    obtain ⟨r, n', m'⟩ := h.el i e he
    exact ⟨q1 _ r, n', m'.same (hb _ (by omega) (by omega) (by omega))⟩
  · intro k hk2 hkc hk0
    rw [hold k hk2 hkc (by omega) (by omega)]
    exact hk0
  · exact hk.wide (fun k x => by
      rcases x with x | x | x
      · exact Or.inl x
      · exact Or.inr (by have := (hvw k x).2; omega)
      · exact Or.inr (by have := (hvr k x).2; omega))

end Go.Proofs.YtikdbpphbdbdnaaGreat
