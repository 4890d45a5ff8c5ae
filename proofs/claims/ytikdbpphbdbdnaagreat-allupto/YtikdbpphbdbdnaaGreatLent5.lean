/- settle: each list that waits is as it was; then it is marked and made longer. -/
import Derived.Test.YtikdbpphbdbdnaaGreatLent4
import Derived.ArgAppend
import Derived.Deep.RegionLawGrows
namespace Go.Proofs.YtikdbpphbdbdnaaGreat
open Go.RowKit
set_option linter.unusedVariables false

/-- A row of one cell an element, opened at one element. -/
theorem rowM_at {α : Type} (f : α → Value) {w : World} {base : Nat} {e : TypeId} {v : Value} {l : List α} (h : w.ownsRow base e 1 v l.length (l.map f)) {i : Nat} {a : α} (ha : l[i]? = some a) :
    ∃ rb cap, v = .slice (some ⟨rb, 0, none⟩) l.length cap ∧ rb < w.heap.size ∧ w.cell? ⟨rb, i, none⟩ = some (f a) := by
  have hi : i < l.length := (List.getElem?_eq_some_iff.1 ha).1
  rcases h.2 with ⟨_, h0⟩ | ⟨rb, cap, cur, hv, hb, hg, hn, hm, hsz, hxs⟩
  · omega
  · refine ⟨rb, cap, hv, (Array.getElem?_eq_some_iff.1 hg).1, ?_⟩
    have q : (l.map f)[i]? = some (f a) := by rw [List.getElem?_map, ha]; rfl
    rw [← hxs, List.getElem?_take_of_lt (by omega), Array.getElem?_toList] at q
    simp [World.cell?, hg, q]

theorem row_form {w : World} {base : Nat} {e : TypeId} {m : Nat} {v : Value} {n : Nat} {xs : List Value} (h : w.ownsRow base e m v n xs) : ∃ a cap, v = .slice a n cap := by
  rcases h.2 with ⟨x, y⟩ | ⟨rb, cap, cur, x, _⟩
  · exact ⟨none, 0, by rw [x, y]⟩
  · exact ⟨_, _, x⟩

/-- What stands beside a list that waits is what it was. -/
theorem were_in {ρ : Nat → Nat} {base i : Nat} {e : WaitE} {w : World} (ok : WaitOk ρ base i e w) : ∃ ob cb, e.v = .slice ob e.n cb ∧ (e.n = 0 ∨ ∃ b, ob = some ⟨b, 0, none⟩ ∧ b < w.heap.size ∧ CysIn w b e.n e.cy) := by
  rcases ok.v.2 with ⟨x, y⟩ | ⟨rb, cap, cur, x, hb, hg, hn, hm, hsz, hxs⟩
  · exact ⟨none, 0, by rw [x, y], Or.inl y⟩
  · refine ⟨_, _, x, Or.inr ⟨rb, rfl, (Array.getElem?_eq_some_iff.1 hg).1, fun j hj => ?_⟩⟩
    have q : ∀ t, t < 4 → w.cell? ⟨rb, j * 4 + t, none⟩ = some (cyCell (e.cy j) t) := fun t ht => by
      have q1 := cysCells_get e.cy e.n (j * 4 + t) (by omega)
      rw [← hxs, List.getElem?_take_of_lt (by omega), Array.getElem?_toList, show (j * 4 + t) / 4 = j by omega, show (j * 4 + t) % 4 = t by omega] at q1
      simp [World.cell?, hg, q1]
    exact ⟨q 0 (by omega), q 1 (by omega), q 2 (by omega), q 3 (by omega)⟩

/-- One element of four cells has turned. -/
theorem raw_put4L {b m i : Nat} {F F' : Nat → Value} {w : World} (h : Raw b (m * 4) F w) (hi : i < m) (c : Nat → Value) (hF : ∀ k, k < m * 4 → F' k = if k / 4 = i then c (k % 4) else F k) : Raw b (m * 4) F' ((((w.setCell ⟨b, i * 4, none⟩ (c 0)).setCell ⟨b, i * 4 + 1, none⟩ (c 1)).setCell ⟨b, i * 4 + 2, none⟩ (c 2)).setCell ⟨b, i * 4 + 3, none⟩ (c 3)) := by
  have h1 := Raw.set (F' := fun k => if k = i * 4 then c 0 else F k) h (k := i * 4) (by omega) (c 0) (fun _ _ => rfl)
  have h2 := Raw.set (F' := fun k => if k = i * 4 + 1 then c 1 else if k = i * 4 then c 0 else F k) h1 (k := i * 4 + 1) (by omega) (c 1) (fun _ _ => rfl)
  have h3 := Raw.set (F' := fun k => if k = i * 4 + 2 then c 2 else if k = i * 4 + 1 then c 1 else if k = i * 4 then c 0 else F k) h2 (k := i * 4 + 2) (by omega) (c 2) (fun _ _ => rfl)
  refine Raw.set h3 (k := i * 4 + 3) (by omega) (c 3) (fun k hk => ?_)
  rw [hF k hk]
  by_cases e : k / 4 = i
  · rw [if_pos e]
    rcases (by omega : k = i * 4 ∨ k = i * 4 + 1 ∨ k = i * 4 + 2 ∨ k = i * 4 + 3) with x | x | x | x
    · rw [show k % 4 = 0 by omega, if_neg (by omega), if_neg (by omega), if_neg (by omega), if_pos x]
    · rw [show k % 4 = 1 by omega, if_neg (by omega), if_neg (by omega), if_pos x]
    · rw [show k % 4 = 2 by omega, if_neg (by omega), if_pos x]
    · rw [show k % 4 = 3 by omega, if_pos x]
  · rw [if_neg e, if_neg (by omega), if_neg (by omega), if_neg (by omega), if_neg (by omega)]

/-- The book while the lists are marked: those from j on still wait. -/
structure MidL (g base j : Nat) (ρ : Nat → Nat) (s : Ls) (w : World) : Prop where
  gb : g < base
  lo : ∀ k, ρ k ≠ 0 → base ≤ k ∧ k < w.heap.size
  c1 : w.cell? ⟨g, 1, none⟩ = some (.int .i64 s.m)
  c2 : w.cell? ⟨g, 2, none⟩ = some s.vw
  c3 : w.cell? ⟨g, 3, none⟩ = some s.vr
  c4 : w.cell? ⟨g, 4, none⟩ = some s.vs
  c5 : w.cell? ⟨g, 5, none⟩ = some s.vl
  fz : ∀ j, 1 ≤ j → j < 6 → w.frozen? ⟨g, j, none⟩ = false
  rw : w.ownsRow base 52 1 s.vw s.ws.length (s.ws.map waitCell)
  rs : w.ownsRow base 56 8 s.vs s.se.length (s.se.flatMap seenCell)
  rl : w.ownsRow base 59 4 s.vl s.le.length (s.le.flatMap lentCell)
  bw : ∀ k, s.vw.ownBlock = some k → ρ k = 2
  bs : ∀ k, s.vs.ownBlock = some k → ρ k = 4
  bl : ∀ k, s.vl.ownBlock = some k → ρ k = 5
  ew : ∀ (i : Nat) (e : WaitE), j ≤ i → s.ws[i]? = some e → ρ e.c = 6 + i ∧ e.n ≤ 1048576 ∧ ∃ F, Raw e.c (e.n * 4) F w
  es : ∀ (i : Nat) (e : SeenE), s.se[i]? = some e → SeenOk ρ e w
  el : ∀ (i : Nat) (e : LentE), s.le[i]? = some e → LentOk ρ e w
  m0 : 0 ≤ s.m

theorem BookL.mid {g base : Nat} {ρ : Nat → Nat} {s : Ls} {w : World} (h : BookL g base ρ s w) : MidL g base 0 ρ s w :=
  ⟨h.gb, h.lo, h.c1, h.c2, h.c3, h.c4, h.c5, h.fz, h.rw, h.rs, h.rl, h.bw, h.bs, h.bl, fun i e _ he => ⟨(h.ew i e he).r, (h.ew i e he).n, _, (h.ew i e he).cy⟩, h.es, h.el, h.m0⟩

/-- What settle leaves. -/
def SettlePost (g base : Nat) (ρ : Nat → Nat) (s : Ls) (w w' : World) : Prop :=
  ∃ ρ' s', BookL g base ρ' s' w' ∧ s'.ws = [] ∧ s'.se.length = s.se.length + s.ws.length ∧ s'.le = s.le ∧ s'.m = s.m + s.ws.length ∧ (∀ k, k < w.heap.size → ρ k = 0 → ρ' k = 0) ∧ Kept (fun k => k = g ∨ ρ k ≠ 0) w w' ∧ w'.cell? ⟨g, 0, none⟩ = w.cell? ⟨g, 0, none⟩ ∧ w'.frozen? ⟨g, 0, none⟩ = w.frozen? ⟨g, 0, none⟩

theorem book_info : (Tryz.prog.info? 56).map (fun i => (i.size, i.bytes, i.zero.map (·.cells.size))) = some (8, 120, some 8) := by kernel_rfl

theorem olds_at {w : World} {c n : Nat} {k : Int} {F : Nat → Value} (h : Raw c (n * 4) (fun i => if i / 4 < n then cyCell ⟨k, 0, 0, 0⟩ (i % 4) else F i) w) : ∀ j v, (cysCells (fun _ => ⟨k, 0, 0, 0⟩) n)[j]? = some v → w.cell? ((⟨c, 0, none⟩ : Addr).add j) = some v := fun j v hv => by
  have hj : j < n * 4 := by have := (List.getElem?_eq_some_iff.1 hv).1; rw [cysCells_len] at this; exact this
  rw [cysCells_get _ n j hj] at hv
  have ha : (⟨c, 0, none⟩ : Addr).add j = ⟨c, j, none⟩ := by unfold Addr.add; split <;> simp_all
  have q := (h j hj).1
  dsimp only at q
  rw [if_pos (by omega)] at q
  rw [ha, ← hv]
  exact q

theorem marked_row {w : World} {base n : Nat} {k : Int} {g cap : Nat} {xs : List Value} (h : w.ownsRow base 54 4 (.slice (some ⟨g, 0, none⟩) n cap) n xs) (hx : ∀ i, i < n * 4 → xs[i]? = some (cyCell ⟨k, 0, 0, 0⟩ (i % 4))) : Marked w g n k := fun i hi => by
  have q : ∀ t, t < 4 → w.cell? ⟨g, i * 4 + t, none⟩ = some (cyCell ⟨k, 0, 0, 0⟩ t) := fun t ht => by
    have h1 := hx (i * 4 + t) (by omega)
    rw [show (i * 4 + t) % 4 = t by omega] at h1
    have h2 := h.cells (g := g) rfl _ _ h1
    have ha : (⟨g, 0, none⟩ : Addr).add (i * 4 + t) = ⟨g, i * 4 + t, none⟩ := by unfold Addr.add; split <;> simp_all
    rw [ha] at h2
    exact h2
  exact ⟨q 0 (by omega), q 1 (by omega), q 2 (by omega), q 3 (by omega)⟩

theorem longer (k : Int) (n t : Nat) (news : List Value) (hn : ∀ r, r < t * 4 → news[r]? = some (cyCell ⟨k, 0, 0, 0⟩ (r % 4))) : ∀ i, i < (n + t) * 4 → (cysCells (fun _ => ⟨k, 0, 0, 0⟩) n ++ news)[i]? = some (cyCell ⟨k, 0, 0, 0⟩ (i % 4)) := fun i hi => by
  by_cases h : i < n * 4
  · rw [List.getElem?_append_left (by rw [cysCells_len]; exact h), cysCells_get _ n i h]
  · rw [List.getElem?_append_right (by rw [cysCells_len]; omega), cysCells_len, hn (i - n * 4) (by omega), show (i - n * 4) % 4 = i % 4 by omega]

/-- One list more has been marked, made longer and written into the book. -/
theorem settle_round {g base j : Nat} {ρ1 : Nat → Nat} {s1 : Ls} {wz W0 wr w4 w5 : World} {e : WaitE} {M : Int} {g1 g2 g3 c1 c2 c3 g' cap' p : Nat} (mid : MidL g base j ρ1 s1 wz) (hM : M = s1.m) (he : s1.ws[j]? = some e)
    (k0 : Kept (fun k => k = g) wz W0) (cg1 : W0.cell? ⟨g, 1, none⟩ = some (.int .i64 (M + 1))) (cgo : ∀ j, j ≠ 1 → W0.cell? ⟨g, j, none⟩ = wz.cell? ⟨g, j, none⟩) (cgf : ∀ j, W0.frozen? ⟨g, j, none⟩ = wz.frozen? ⟨g, j, none⟩)
    (kx : Kept (fun k => k = e.c) W0 wr) (mk : Marked wr e.c e.n (-(M + 1))) (kA : Kept (fun _ => False) wr w4) (hp : wr.heap.size ≤ p)
    (M1 : Marked w4 g1 (e.n + 1) (-(M + 1))) (M2 : Marked w4 g2 (e.n + 2) (-(M + 1))) (M3 : Marked w4 g3 (e.n + 3) (-(M + 1))) (b1 : wr.heap.size ≤ g1 ∧ g1 < w4.heap.size ∧ g1 ≠ p) (b2 : wr.heap.size ≤ g2 ∧ g2 < w4.heap.size ∧ g2 ≠ p) (b3 : wr.heap.size ≤ g3 ∧ g3 < w4.heap.size ∧ g3 ≠ p)
    (k5 : Kept (fun k => k = p ∨ s1.vs.ownBlock = some k) w4 w5) (h5 : w5.ownsRow base 56 8 (.slice (some ⟨g', 0, none⟩) (s1.se.length + 1) cap') (s1.se.length + 1) (s1.se.flatMap seenCell ++ seenCell ⟨-(M + 1), e.c, e.n, g1, g2, g3, c1, c2, c3⟩)) (hat : s1.vs.ownBlock = some g' ∨ w4.heap.size ≤ g') :
    ∃ ρ' s', MidL g base (j + 1) ρ' s' (w5.setCell ⟨g, 4, none⟩ (.slice (some ⟨g', 0, none⟩) (s1.se.length + 1) cap')) ∧ s'.ws = s1.ws ∧ s'.vw = s1.vw ∧ s'.se.length = s1.se.length + 1 ∧ s'.le = s1.le ∧ s'.m = s1.m + 1 ∧ (∀ k, k < wz.heap.size → ρ1 k = 0 → ρ' k = 0) ∧ Kept (fun k => k = g ∨ ρ1 k ≠ 0) wz (w5.setCell ⟨g, 4, none⟩ (.slice (some ⟨g', 0, none⟩) (s1.se.length + 1) cap')) ∧ (w5.setCell ⟨g, 4, none⟩ (.slice (some ⟨g', 0, none⟩) (s1.se.length + 1) cap')).cell? ⟨g, 0, none⟩ = wz.cell? ⟨g, 0, none⟩ ∧ (w5.setCell ⟨g, 4, none⟩ (.slice (some ⟨g', 0, none⟩) (s1.se.length + 1) cap')).frozen? ⟨g, 0, none⟩ = wz.frozen? ⟨g, 0, none⟩ := by
  obtain ⟨hρ, hn, F, hF⟩ := mid.ew j e (Nat.le_refl _) he
  have hgr := lt_of_cell mid.c1
  have hgb := mid.gb
  have hec := mid.lo e.c (by rw [hρ]; omega)
  have s0 := k0.size
  have sx := kx.size
  have sA := kA.size
  have s5 := k5.size
  have hg' : base ≤ g' ∧ g' < w5.heap.size := h5.lt g' rfl
  have hvs : ∀ k, s1.vs.ownBlock = some k → k < wz.heap.size ∧ ρ1 k = 4 := fun k hk => ⟨(mid.lo k (by rw [mid.bs k hk]; omega)).2, mid.bs k hk⟩
  have hg'r : g' < wz.heap.size ∧ ρ1 g' = 4 ∨ w4.heap.size ≤ g' := by
    rcases hat with x | x
    · exact Or.inl (hvs g' x)
    · exact Or.inr x
  have hneg : s1.vs.ownBlock ≠ some g := fun x => by have := mid.lo g (by rw [(hvs g x).2]; omega); omega
  have hblk : ∀ k, k < wz.heap.size → k ≠ g → k ≠ e.c → s1.vs.ownBlock ≠ some k → (w5.setCell ⟨g, 4, none⟩ (.slice (some ⟨g', 0, none⟩) (s1.se.length + 1) cap')).heap[k]? = wz.heap[k]? := fun k q1 q2 q3 q4 =>
    (Below.heap_setCell _ _ _ _ q2).trans ((k5.block k (by omega) (fun x => by rcases x with x | x; omega; exact q4 x)).trans ((kA.block k (by omega) (fun x => x)).trans ((kx.block k (by omega) q3).trans (k0.block k q1 q2))))
  have hcell : ∀ i, i ≠ 4 → (w5.setCell ⟨g, 4, none⟩ (.slice (some ⟨g', 0, none⟩) (s1.se.length + 1) cap')).cell? ⟨g, i, none⟩ = W0.cell? ⟨g, i, none⟩ := fun i hi => by
    rw [World.cell?_setCell_other _ _ _ _ (by intro x; exact hi (congrArg Addr.off x).symm), k5.cell (b := g) (by omega) (fun x => by rcases x with x | x; omega; exact hneg x), kA.cell (b := g) (by omega) (fun x => x), kx.cell (b := g) (by omega) (by omega)]
  have hrole : ∀ k, k < wz.heap.size → ρ1 k ≠ 4 → ρ1 k ≠ 6 + j → (if k = e.c ∨ k = g1 ∨ k = g2 ∨ k = g3 then 1 else if k = g' then 4 else ρ1 k) = ρ1 k := fun k q1 q2 q3 => by
    rw [if_neg (by
      rintro (x | x | x | x)
      · exact q3 (x ▸ hρ)
      · omega
      · omega
      · omega), if_neg (by
      intro x
      rcases hg'r with y | y
      · exact q2 (x ▸ y.2)
      · omega)]
  have hone : ∀ k, k = e.c ∨ k = g1 ∨ k = g2 ∨ k = g3 → (if k = e.c ∨ k = g1 ∨ k = g2 ∨ k = g3 then 1 else if k = g' then 4 else ρ1 k) = 1 := fun k hk => if_pos hk
  have hb : ∀ k, ρ1 k ≠ 0 → ρ1 k ≠ 4 → ρ1 k ≠ 6 + j → (w5.setCell ⟨g, 4, none⟩ (.slice (some ⟨g', 0, none⟩) (s1.se.length + 1) cap')).heap[k]? = wz.heap[k]? := fun k q0 q1 q2 =>
    hblk k (mid.lo k q0).2 (by have := mid.lo k q0; omega) (fun x => q2 (x ▸ hρ)) (fun x => q1 (hvs k x).2)
  have hfar : ∀ k, wr.heap.size ≤ k → k < w4.heap.size → k ≠ p → (w5.setCell ⟨g, 4, none⟩ (.slice (some ⟨g', 0, none⟩) (s1.se.length + 1) cap')).heap[k]? = w4.heap[k]? := fun k q1 q2 q3 =>
    (Below.heap_setCell _ _ _ _ (by show k ≠ g; omega)).trans (k5.block k q2 (fun x => by rcases x with x | x; exact q3 x; have := (hvs k x).1; omega))
  refine ⟨fun k => if k = e.c ∨ k = g1 ∨ k = g2 ∨ k = g3 then 1 else if k = g' then 4 else ρ1 k, { s1 with m := M + 1, vs := .slice (some ⟨g', 0, none⟩) (s1.se.length + 1) cap', se := s1.se ++ [⟨-(M + 1), e.c, e.n, g1, g2, g3, c1, c2, c3⟩] }, ⟨hgb, ?_, (hcell 1 (by omega)).trans cg1, ((hcell 2 (by omega)).trans (cgo 2 (by omega))).trans mid.c2, ((hcell 3 (by omega)).trans (cgo 3 (by omega))).trans mid.c3, ?_, ((hcell 5 (by omega)).trans (cgo 5 (by omega))).trans mid.c5, ?_, ?_, ?_, ?_, ?_, ?_, ?_, ?_, ?_, ?_, ?_⟩, rfl, rfl, by simp, rfl, by rw [hM], ?_, ?_, (hcell 0 (by omega)).trans (cgo 0 (by omega)), ?_⟩
  · intro k hk
    rw [World.size_setCell]
    by_cases x : k = e.c ∨ k = g1 ∨ k = g2 ∨ k = g3
    · rcases x with x | x | x | x <;> subst x <;> exact ⟨by omega, by omega⟩
    · by_cases y : k = g'
      · subst y; exact hg'
      · simp only [if_neg x, if_neg y] at hk
        have := mid.lo k hk
        exact ⟨this.1, by omega⟩
  · have c4 : w5.cell? ⟨g, 4, none⟩ = some s1.vs := by
      rw [k5.cell (b := g) (by omega) (fun x => by rcases x with x | x; omega; exact hneg x), kA.cell (b := g) (by omega) (fun x => x), kx.cell (b := g) (by omega) (by omega), cgo 4 (by omega)]
      exact mid.c4
    exact World.cell?_setCell_same _ _ _ c4
  · intro i i1 i6
    rw [World.frozen?_setCell, k5.frozen (b := g) (by omega) (fun x => by rcases x with x | x; omega; exact hneg x), kA.frozen (b := g) (by omega) (fun x => x), kx.frozen (b := g) (by omega) (by omega), cgf i]
    exact mid.fz i i1 i6
  · exact ownsRow_same mid.rw (fun k hk => by have r := mid.bw k hk; exact hb k (by omega) (by omega) (by omega))
  · have el : (s1.se ++ [(⟨-(M + 1), e.c, e.n, g1, g2, g3, c1, c2, c3⟩ : SeenE)]).length = s1.se.length + 1 := by simp
    have ef : (s1.se ++ [(⟨-(M + 1), e.c, e.n, g1, g2, g3, c1, c2, c3⟩ : SeenE)]).flatMap seenCell = s1.se.flatMap seenCell ++ seenCell ⟨-(M + 1), e.c, e.n, g1, g2, g3, c1, c2, c3⟩ := by simp
    try dsimp only
    rw [el, ef]
    exact ownsRow_same h5 (fun k hk => Below.heap_setCell _ _ _ _ (by have x : g' = k := Option.some.inj hk; show k ≠ g; omega))
  · exact ownsRow_same mid.rl (fun k hk => by have r := mid.bl k hk; exact hb k (by omega) (by omega) (by omega))
  · intro k hk
    have r := mid.bw k hk
    try dsimp only
    rw [hrole k (mid.lo k (by omega)).2 (by omega) (by omega)]
    exact r
  · intro k hk
    have x : g' = k := Option.some.inj hk
    subst x
    try dsimp only
    rw [if_neg (by
      rintro (y | y | y | y)
      · rcases hg'r with q | q
        · rw [y, hρ] at q; omega
        · omega
      · rcases hg'r with q | q <;> omega
      · rcases hg'r with q | q <;> omega
      · rcases hg'r with q | q <;> omega), if_pos rfl]
  · intro k hk
    have r := mid.bl k hk
    try dsimp only
    rw [hrole k (mid.lo k (by omega)).2 (by omega) (by omega)]
    exact r
  · intro i e' hi he'
    obtain ⟨r, n', F', hF'⟩ := mid.ew i e' (by omega) he'
    try dsimp only
    refine ⟨?_, n', F', fun k hk => ?_⟩
    · rw [hrole e'.c (mid.lo _ (by omega)).2 (by omega) (by omega)]
      exact r
    · have q := hb e'.c (by omega) (by omega) (by omega)
      exact ⟨(World.cell?_of_block (w := wz) (a := ⟨e'.c, k, none⟩) q).trans (hF' k hk).1, (World.frozen?_of_block (w := wz) (a := ⟨e'.c, k, none⟩) q).trans (hF' k hk).2⟩
  · intro i e' he'
    try dsimp only at he' ⊢
    rw [List.getElem?_append] at he'
    by_cases hi : i < s1.se.length
    · rw [if_pos hi] at he'
      obtain ⟨r0, r1, r2, r3, n', m0, m1, m2, m3⟩ := mid.es i e' he'
      have q : ∀ k, ρ1 k = 1 → (if k = e.c ∨ k = g1 ∨ k = g2 ∨ k = g3 then 1 else if k = g' then 4 else ρ1 k) = 1 := fun k hk => by rw [hrole k (mid.lo k (by omega)).2 (by omega) (by omega)]; exact hk
      exact ⟨q _ r0, q _ r1, q _ r2, q _ r3, n', m0.same (hb _ (by omega) (by omega) (by omega)), m1.same (hb _ (by omega) (by omega) (by omega)), m2.same (hb _ (by omega) (by omega) (by omega)), m3.same (hb _ (by omega) (by omega) (by omega))⟩
    · rw [if_neg hi] at he'
      have h0 : i - s1.se.length = 0 := by
        have := (List.getElem?_eq_some_iff.1 he').1
        simp at this
        omega
      rw [h0] at he'
      simp at he'
      subst he'
      refine ⟨hone _ (Or.inl rfl), hone _ (Or.inr (Or.inl rfl)), hone _ (Or.inr (Or.inr (Or.inl rfl))), hone _ (Or.inr (Or.inr (Or.inr rfl))), hn, ?_, M1.same (hfar _ b1.1 b1.2.1 b1.2.2), M2.same (hfar _ b2.1 b2.2.1 b2.2.2), M3.same (hfar _ b3.1 b3.2.1 b3.2.2)⟩
      refine mk.same ((Below.heap_setCell _ _ _ _ (by show e.c ≠ g; omega)).trans ((k5.block e.c (by omega) (fun x => by rcases x with x | x; omega; have := (hvs _ x).2; omega)).trans (kA.block e.c (by omega) (fun x => x))))
  · intro i e' he'
    obtain ⟨r, n', m'⟩ := mid.el i e' he'
    try dsimp only
    refine ⟨?_, n', m'.same (hb _ (by omega) (by omega) (by omega))⟩
    rw [hrole _ (mid.lo _ (by omega)).2 (by omega) (by omega)]
    exact r
  · have := mid.m0
    try dsimp only
    omega
  · intro k hk hk0
    try dsimp only
    rw [hrole k hk (by omega) (by omega)]
    exact hk0
  · refine Kept.setCell (b := g) ?_ (Or.inl (Or.inl rfl)) _
    refine ⟨k5.os.trans (kA.os.trans (kx.os.trans k0.os)), k5.tape.trans (kA.tape.trans (kx.tape.trans k0.tape)), k5.output.trans (kA.output.trans (kx.output.trans k0.output)), by omega, fun k hk hS => ?_⟩
    have q1 : k ≠ g := fun x => hS (Or.inl x)
    have q2 : ρ1 k = 0 := Classical.byContradiction fun x => hS (Or.inr x)
    exact (k5.block k (by omega) (fun x => by rcases x with x | x; omega; have := (hvs k x).2; omega)).trans ((kA.block k (by omega) (fun x => x)).trans ((kx.block k (by omega) (fun x => by rw [x, hρ] at q2; omega)).trans (k0.block k hk q1)))
  · rw [World.frozen?_setCell, k5.frozen (b := g) (by omega) (fun x => by rcases x with x | x; omega; exact hneg x), kA.frozen (b := g) (by omega) (fun x => x), kx.frozen (b := g) (by omega) (by omega), cgf 0]

set_option maxRecDepth 100000 in
set_option maxHeartbeats 2000000 in
theorem settle_any {g base : Nat} {ρ : Nat → Nat} {s : Ls} {w : World} (h : BookL g base ρ s w) (hl1 : s.se.length + s.ws.length ≤ 2097152) (hm : s.m + s.ws.length ≤ 4611686018427387904) :
    Calls Tryz.prog 10 #[.pointer (some ⟨g, 0, none⟩)] w fun e w' => e = .returned (.bool true) ∧ SettlePost g base ρ s w w' := by
  have hg := lt_of_cell h.c1
  have hc2 := h.c2
  have hc3 := h.c3
  obtain ⟨wa, wcap, hvw⟩ := row_form h.rw
  obtain ⟨ra, rcap, hvr⟩ := row_form h.rr
  rw [hvw] at hc2
  rw [hvr] at hc3
  go_enter Tryz.func10, Tryz.ntmps10
  go_wp2
  go_loopw [3, 4] (fun t3 t4 wx => ∃ j : Nat, j ≤ s.ws.length ∧ t3 = .bool true ∧ t4 = .int .i64 j ∧ Kept (fun _ => False) w wx) (fun _ t4 _ => s.ws.length - (intOf t4).toNat)
  case atStart => exact ⟨0, by omega, rfl, rfl, Kept.refl _ _⟩
  case round =>
    obtain ⟨j, hj, rfl, rfl, hk⟩ := hrel
    have e2 : wr.cell? ⟨g, 2, none⟩ = some (.slice wa s.ws.length wcap) := by rw [hk.cell hg (fun x => x)]; exact hc2
    have e3 : wr.cell? ⟨g, 3, none⟩ = some (.slice ra s.ws.length rcap) := by rw [hk.cell hg (fun x => x)]; exact hc3
    by_cases hjn : j < s.ws.length
    · have hjn' : (j : Int) < (s.ws.length : Int) := by omega
      obtain ⟨e, he⟩ : ∃ e, s.ws[j]? = some e := ⟨s.ws[j], List.getElem?_eq_getElem hjn⟩
      obtain ⟨rb, cap, hv, hrb, hcw⟩ := rowM_at waitCell h.rw he
      obtain ⟨rc, cap', hv', hrc, hcr⟩ := rowM_at (·.v) h.rr he
      rw [hvw] at hv
      rw [hvr] at hv'
      obtain ⟨rfl, rfl⟩ : wa = some ⟨rb, 0, none⟩ ∧ wcap = cap := by simp at hv; exact hv
      obtain ⟨rfl, rfl⟩ : ra = some ⟨rc, 0, none⟩ ∧ rcap = cap' := by simp at hv'; exact hv'
      have ok := h.ew j e he
      obtain ⟨ob, cb, hev, hcys⟩ := were_in ok
      try dsimp only at hcr
      rw [hev] at hcr
      have hcw' : w.cell? ⟨rb, j, none⟩ = some (.slice (some ⟨e.c, 0, none⟩) e.n e.n) := hcw
      have hec : e.c < w.heap.size := (h.lo e.c (by rw [ok.r]; omega)).2
      have hn := ok.n
      have HSx : Hid (∀ W : World, Kept (fun _ => False) w W → W.cell? ⟨g, 2, none⟩ = some (.slice (some ⟨rb, 0, none⟩) s.ws.length wcap) ∧ W.cell? ⟨g, 3, none⟩ = some (.slice (some ⟨rc, 0, none⟩) s.ws.length rcap) ∧ W.cell? ⟨rb, j, none⟩ = some (.slice (some ⟨e.c, 0, none⟩) e.n e.n) ∧ W.cell? ⟨rc, j, none⟩ = some (.slice ob e.n cb)) := fun W hW =>
        ⟨by rw [hW.cell hg (fun x => x)]; exact hc2, by rw [hW.cell hg (fun x => x)]; exact hc3, by rw [hW.cell hrb (fun x => x)]; exact hcw', by rw [hW.cell hrc (fun x => x)]; exact hcr⟩
      have HSame : Hid (∀ W : World, Kept (fun _ => False) w W → Calls Tryz.prog 19 #[.slice (some ⟨e.c, 0, none⟩) e.n e.n, .slice ob e.n cb] W fun e w' => e = .returned (.bool true) ∧ Kept (fun _ => False) W w') := fun W hW =>
        same_any W e.c ob e.n e.n cb e.cy (by unfold maxLen; omega) (Nat.lt_of_lt_of_le hec hW.size) (ok.cy.read.same (hW.block _ hec (fun x => x))) (by
          rcases hcys with x | ⟨b, x, hb, y⟩
          · exact Or.inl x
          · exact Or.inr ⟨b, x, Nat.lt_of_lt_of_le hb hW.size, y.same (hW.block _ hb (fun x => x))⟩)
      clear hv hv' hcw hcw' hcr hev hcys ok
      go_wp2
      go_region_held3 (fun W => W.cell? ⟨g, 2, none⟩ = some (.slice (some ⟨rb, 0, none⟩) s.ws.length wcap) ∧ W.cell? ⟨g, 3, none⟩ = some (.slice (some ⟨rc, 0, none⟩) s.ws.length rcap) ∧ W.cell? ⟨rb, j, none⟩ = some (.slice (some ⟨e.c, 0, none⟩) e.n e.n) ∧ W.cell? ⟨rc, j, none⟩ = some (.slice ob e.n cb)) (first | exact HSx.out _ hk.drew | exact HSx.out _ (hk.drew.trans (by assumption))) (first | (go_at_call 19; refine Calls.mono (HSame.out _ hk.drew) ?_; rintro e' w1 ⟨rfl, k1⟩))
      all_goals
        go_wp2
        exact ⟨⟨j + 1, by omega, rfl, by go_num, hk.drew.trans k1⟩, by simp [intOf]; omega⟩
    · have hjn' : ¬ (j : Int) < (s.ws.length : Int) := by omega
      have mid0 : MidL g base 0 ρ s wr := (h.kept hk (fun x => x) (fun k x => x.elim)).mid
      have kk0 : Kept (fun k => k = g ∨ ρ k ≠ 0) w wr := hk.wide (fun _ x => x.elim)
      have g0 : wr.cell? ⟨g, 0, none⟩ = w.cell? ⟨g, 0, none⟩ ∧ wr.frozen? ⟨g, 0, none⟩ = w.frozen? ⟨g, 0, none⟩ := ⟨hk.cell hg (fun x => x) 0, hk.frozen hg (fun x => x) 0⟩
      have HG : Hid _ := g0
      clear hk g0
      go_wp2
      clear e2 e3 hc2 hc3
      go_loopw [6] (fun t6 wx => ∃ (j : Nat) (ρ1 : Nat → Nat) (s1 : Ls), j ≤ s.ws.length ∧ t6 = .int .i64 j ∧ MidL g base j ρ1 s1 wx ∧ s1.ws = s.ws ∧ s1.vw = s.vw ∧ s1.se.length = s.se.length + j ∧ s1.le = s.le ∧ s1.m = s.m + j ∧ (∀ k, k < w.heap.size → ρ k = 0 → ρ1 k = 0) ∧ Kept (fun k => k = g ∨ ρ k ≠ 0) w wx ∧ wx.cell? ⟨g, 0, none⟩ = w.cell? ⟨g, 0, none⟩ ∧ wx.frozen? ⟨g, 0, none⟩ = w.frozen? ⟨g, 0, none⟩) (fun t6 _ => s.ws.length - (intOf t6).toNat)
      case atStart => exact ⟨0, ρ, s, by omega, rfl, mid0, rfl, rfl, by omega, rfl, by omega, fun _ _ x => x, kk0, HG.out⟩
      case round =>
        clear mid0 kk0 hjn' hjn hj HG
        obtain ⟨j, ρ1, s1, hj, rfl, mid, ews, evw, hse, hle, hmm, hz1, hkk, hg0⟩ := hrel
        have HG : Hid _ := hg0
        clear hg0
        have hgr := lt_of_cell mid.c1
        have e2 : wr.cell? ⟨g, 2, none⟩ = some (.slice wa s.ws.length wcap) := by rw [mid.c2, evw, hvw]
        by_cases hjn : j < s.ws.length
        · have hjn' : (j : Int) < (s.ws.length : Int) := by omega
          obtain ⟨e, he⟩ : ∃ e, s.ws[j]? = some e := ⟨s.ws[j], List.getElem?_eq_getElem hjn⟩
          obtain ⟨rb, cap, hv, hrb, hcw⟩ := rowM_at waitCell mid.rw (show s1.ws[j]? = some e by rw [ews]; exact he)
          rw [evw, hvw, ews] at hv
          obtain ⟨rfl, rfl⟩ : wa = some ⟨rb, 0, none⟩ ∧ wcap = cap := by simp at hv; exact hv
          obtain ⟨hρ, hn, F, hF⟩ := mid.ew j e (Nat.le_refl _) (by rw [ews]; exact he)
          have hcw' : wr.cell? ⟨rb, j, none⟩ = some (.slice (some ⟨e.c, 0, none⟩) e.n e.n) := hcw
          have q1 := mid.c1
          have f1 := mid.fz 1 (by omega) (by omega)
          have hm0 := mid.m0
          have hm1 : s1.m ≤ 4611686018427387904 := by omega
          have hecb := mid.lo e.c (by rw [hρ]; omega)
          have hgb := mid.gb
          obtain ⟨wz, rfl⟩ : ∃ wz : World, wz = wr := ⟨_, rfl⟩
          obtain ⟨M, hM⟩ : ∃ M, M = s1.m := ⟨_, rfl⟩
          rw [← hM] at q1 hm0 hm1
          have HQ : Hid _ := And.intro hM (And.intro ews (And.intro evw (And.intro hse (And.intro hle hmm))))
          clear hM ews evw hse hle hmm hcw hv
          obtain ⟨W0, hW0⟩ : ∃ W0 : World, W0 = (wz.setCell ⟨g, 1, none⟩ (.int .i64 (M + 1))).alloc (.cells #[.int .i64 (-(M + 1)), .int .i64 0, .int .u8 0, .int .u8 0] 54) := ⟨_, rfl⟩
          have z0 : W0.heap.size = wz.heap.size + 1 := by rw [hW0, World.size_alloc, World.size_setCell]
          have k0 : Kept (fun k => k = g) wz W0 := by rw [hW0]; exact ((Kept.refl (fun k => k = g) wz).setCell (b := g) (Or.inl rfl) _).alloc _
          have cg1 : W0.cell? ⟨g, 1, none⟩ = some (.int .i64 (M + 1)) := by
            rw [hW0, World.cell?_alloc_past _ _ _ (by rw [World.size_setCell]; exact hgr)]
            exact World.cell?_setCell_same _ _ _ q1
          have cgo : ∀ j, j ≠ 1 → W0.cell? ⟨g, j, none⟩ = wz.cell? ⟨g, j, none⟩ := fun j hj => by
            rw [hW0, World.cell?_alloc_past _ _ _ (by rw [World.size_setCell]; exact hgr)]
            exact World.cell?_setCell_other _ _ _ _ (by intro x; exact hj (congrArg Addr.off x).symm)
          have cgf : ∀ j, W0.frozen? ⟨g, j, none⟩ = wz.frozen? ⟨g, j, none⟩ := fun j => by
            rw [hW0, World.frozen?_alloc_past _ _ _ (by rw [World.size_setCell]; exact hgr)]
            exact World.frozen?_setCell _ _ _ _
          have cm : W0.cell? ⟨wz.heap.size, 0, none⟩ = some (.int .i64 (-(M + 1))) ∧ W0.cell? ⟨wz.heap.size, 1, none⟩ = some (.int .i64 0) ∧ W0.cell? ⟨wz.heap.size, 2, none⟩ = some (.int .u8 0) ∧ W0.cell? ⟨wz.heap.size, 3, none⟩ = some (.int .u8 0) := by
            rw [hW0]
            exact ⟨by simp [go_sem], by simp [go_sem], by simp [go_sem], by simp [go_sem]⟩
          have r0 : Raw e.c (e.n * 4) (fun k => if k / 4 < 0 then cyCell ⟨-(M + 1), 0, 0, 0⟩ (k % 4) else F k) W0 := by
            have h1 := Raw.kept hF k0 hecb.2 (by omega)
            intro k hk
            have h2 := h1 k hk
            show W0.cell? ⟨e.c, k, none⟩ = some (if k / 4 < 0 then cyCell ⟨-(M + 1), 0, 0, 0⟩ (k % 4) else F k) ∧ _
            rw [if_neg (by omega)]
            exact h2
          go_wp2
          rw [← hW0]
          clear hW0 hF
          go_loopw [9] (fun t9 wx => ∃ i : Nat, i ≤ e.n ∧ t9 = .int .i64 i ∧ Raw e.c (e.n * 4) (fun k => if k / 4 < i then cyCell ⟨-(M + 1), 0, 0, 0⟩ (k % 4) else F k) wx ∧ Kept (fun k => k = e.c) W0 wx) (fun t9 _ => e.n - (intOf t9).toNat)
          case atStart => exact ⟨0, by omega, rfl, r0, Kept.refl _ _⟩
          case round =>
            clear r0
            obtain ⟨i, hi, rfl, hr, hkx⟩ := hrel
            have zc : e.c ≠ wz.heap.size := by omega
            have m0 : wr.cell? ⟨wz.heap.size, 0, none⟩ = some (.int .i64 (-(M + 1))) := by rw [hkx.cell (b := wz.heap.size) (by omega) (fun x => zc x.symm)]; exact cm.1
            have m1 : wr.cell? ⟨wz.heap.size, 1, none⟩ = some (.int .i64 0) := by rw [hkx.cell (b := wz.heap.size) (by omega) (fun x => zc x.symm)]; exact cm.2.1
            have m2 : wr.cell? ⟨wz.heap.size, 2, none⟩ = some (.int .u8 0) := by rw [hkx.cell (b := wz.heap.size) (by omega) (fun x => zc x.symm)]; exact cm.2.2.1
            have m3 : wr.cell? ⟨wz.heap.size, 3, none⟩ = some (.int .u8 0) := by rw [hkx.cell (b := wz.heap.size) (by omega) (fun x => zc x.symm)]; exact cm.2.2.2
            by_cases hin : i < e.n
            · have hin' : (i : Int) < (e.n : Int) := by omega
              have HFin : Hid (Raw e.c (e.n * 4) (fun k => if k / 4 < i + 1 then cyCell ⟨-(M + 1), 0, 0, 0⟩ (k % 4) else F k) ((((wr.setCell ⟨e.c, i * 4, none⟩ (.int .i64 (-(M + 1)))).setCell ⟨e.c, i * 4 + 1, none⟩ (.int .i64 0)).setCell ⟨e.c, i * 4 + 2, none⟩ (.int .u8 0)).setCell ⟨e.c, i * 4 + 3, none⟩ (.int .u8 0))) := by
                refine raw_put4L hr hin (cyCell ⟨-(M + 1), 0, 0, 0⟩) fun k hk => ?_
                by_cases e1 : k / 4 = i
                · rw [if_pos e1, if_pos (by omega)]
                · rw [if_neg e1]
                  by_cases e2 : k / 4 < i
                  · rw [if_pos e2, if_pos (by omega)]
                  · rw [if_neg e2, if_neg (by omega)]
              obtain ⟨a0, b0⟩ := hr (i * 4) (by omega)
              obtain ⟨a1, b1⟩ := hr (i * 4 + 1) (by omega)
              obtain ⟨a2, b2⟩ := hr (i * 4 + 2) (by omega)
              obtain ⟨a3, b3⟩ := hr (i * 4 + 3) (by omega)
              clear hr
              go_wp2
              exact ⟨⟨i + 1, by omega, by go_num, HFin.out, (((hkx.setCell (b := e.c) (Or.inl rfl) _).setCell (b := e.c) (Or.inl rfl) _).setCell (b := e.c) (Or.inl rfl) _).setCell (b := e.c) (Or.inl rfl) _⟩, by simp [intOf]; omega⟩
            · have hin' : ¬ (i : Int) < (e.n : Int) := by omega
              obtain rfl : i = e.n := by omega
              have mk : Marked wr e.c e.n (-(M + 1)) := fun i hi => by
                have q : ∀ t, t < 4 → wr.cell? ⟨e.c, i * 4 + t, none⟩ = some (cyCell ⟨-(M + 1), 0, 0, 0⟩ t) := fun t ht => by
                  have h1 := (hr (i * 4 + t) (by omega)).1
                  dsimp only at h1
                  rw [if_pos (by omega), show (i * 4 + t) % 4 = t by omega] at h1
                  exact h1
                exact ⟨q 0 (by omega), q 1 (by omega), q 2 (by omega), q 3 (by omega)⟩
              have zwr : wz.heap.size < wr.heap.size := by have := hkx.size; omega
              have hecr : e.c < wr.heap.size := by omega
              obtain ⟨i4, z4, hi4, hz4, hsize4, hbytes4, hzs4⟩ := info_of cycle_info
              obtain ⟨i8, z8, hi8, hz8, hsize8, hbytes8, hzs8⟩ := info_of book_info
              have HPW : Hid (∀ W : World, Kept (fun k => k = wr.heap.size) (wr.alloc (.cells #[.int .i64 (-(M + 1)), .int .i64 0, .int .u8 0, .int .u8 0, .slice (some ⟨e.c, 0, none⟩) e.n e.n, .slice none 0 0, .slice none 0 0, .slice none 0 0] 56)) W → (∀ o, W.frozen? ⟨wr.heap.size, o, none⟩ = false) → (Kept (fun k => k = wr.heap.size) (wr.alloc (.cells #[.int .i64 (-(M + 1)), .int .i64 0, .int .u8 0, .int .u8 0, .slice (some ⟨e.c, 0, none⟩) e.n e.n, .slice none 0 0, .slice none 0 0, .slice none 0 0] 56)) W ∧ (∀ o, W.frozen? ⟨wr.heap.size, o, none⟩ = false) ∧ W.cell? ⟨wz.heap.size, 0, none⟩ = some (.int .i64 (-(M + 1))) ∧ W.cell? ⟨wz.heap.size, 1, none⟩ = some (.int .i64 0) ∧ W.cell? ⟨wz.heap.size, 2, none⟩ = some (.int .u8 0) ∧ W.cell? ⟨wz.heap.size, 3, none⟩ = some (.int .u8 0) ∧ wr.heap.size < W.heap.size ∧ wz.heap.size < W.heap.size)) := fun W hW hf => by
                have hz := hW.size
                rw [World.size_alloc] at hz
                have q : ∀ o, W.cell? ⟨wz.heap.size, o, none⟩ = wr.cell? ⟨wz.heap.size, o, none⟩ := fun o => by rw [hW.cell (b := wz.heap.size) (by rw [World.size_alloc]; omega) (by omega), World.cell?_alloc_past _ _ _ zwr]
                exact ⟨hW, hf, (q 0).trans m0, (q 1).trans m1, (q 2).trans m2, (q 3).trans m3, by omega, by omega⟩
              have HP1 : Hid (∀ w2 : World, ((wr.alloc (.cells #[.int .i64 (-(M + 1)), .int .i64 0, .int .u8 0, .int .u8 0, .slice (some ⟨e.c, 0, none⟩) e.n e.n, .slice none 0 0, .slice none 0 0, .slice none 0 0] 56)).alloc (.cells #[.int .i64 (-(M + 1)), .int .i64 0, .int .u8 0, .int .u8 0] 54)).grownBy w2 none → (Kept (fun k => k = wr.heap.size) (wr.alloc (.cells #[.int .i64 (-(M + 1)), .int .i64 0, .int .u8 0, .int .u8 0, .slice (some ⟨e.c, 0, none⟩) e.n e.n, .slice none 0 0, .slice none 0 0, .slice none 0 0] 56)) w2 ∧ (∀ o, w2.frozen? ⟨wr.heap.size, o, none⟩ = false) ∧ w2.cell? ⟨wz.heap.size, 0, none⟩ = some (.int .i64 (-(M + 1))) ∧ w2.cell? ⟨wz.heap.size, 1, none⟩ = some (.int .i64 0) ∧ w2.cell? ⟨wz.heap.size, 2, none⟩ = some (.int .u8 0) ∧ w2.cell? ⟨wz.heap.size, 3, none⟩ = some (.int .u8 0) ∧ wr.heap.size < w2.heap.size ∧ wz.heap.size < w2.heap.size) ∧ (∀ o, w2.cell? ⟨wr.heap.size, o, none⟩ = (wr.alloc (.cells #[.int .i64 (-(M + 1)), .int .i64 0, .int .u8 0, .int .u8 0, .slice (some ⟨e.c, 0, none⟩) e.n e.n, .slice none 0 0, .slice none 0 0, .slice none 0 0] 56)).cell? ⟨wr.heap.size, o, none⟩)) := fun w2 hgr => by
                have kk : Kept (fun _ => False) (wr.alloc (.cells #[.int .i64 (-(M + 1)), .int .i64 0, .int .u8 0, .int .u8 0, .slice (some ⟨e.c, 0, none⟩) e.n e.n, .slice none 0 0, .slice none 0 0, .slice none 0 0] 56)) w2 := ((Kept.refl _ _).alloc _).trans ((grown_kept hgr).wide (fun k x => by cases x))
                refine ⟨HPW.out w2 (kk.wide (fun _ x => x.elim)) (fun o => ?_), fun o => kk.cell (by rw [World.size_alloc]; omega) (fun x => x) o⟩
                rw [kk.frozen (b := wr.heap.size) (by rw [World.size_alloc]; omega) (fun x => x)]
                simp [go_sem]
              have HPn : Hid (∀ (W : World) (t : Nat) (v : Value) (O : Obj) (W' : World), (Kept (fun k => k = wr.heap.size) (wr.alloc (.cells #[.int .i64 (-(M + 1)), .int .i64 0, .int .u8 0, .int .u8 0, .slice (some ⟨e.c, 0, none⟩) e.n e.n, .slice none 0 0, .slice none 0 0, .slice none 0 0] 56)) W ∧ (∀ o, W.frozen? ⟨wr.heap.size, o, none⟩ = false) ∧ W.cell? ⟨wz.heap.size, 0, none⟩ = some (.int .i64 (-(M + 1))) ∧ W.cell? ⟨wz.heap.size, 1, none⟩ = some (.int .i64 0) ∧ W.cell? ⟨wz.heap.size, 2, none⟩ = some (.int .u8 0) ∧ W.cell? ⟨wz.heap.size, 3, none⟩ = some (.int .u8 0) ∧ wr.heap.size < W.heap.size ∧ wz.heap.size < W.heap.size) → ((W.setCell ⟨wr.heap.size, t, none⟩ v).alloc O).grownBy W' none → (Kept (fun k => k = wr.heap.size) (wr.alloc (.cells #[.int .i64 (-(M + 1)), .int .i64 0, .int .u8 0, .int .u8 0, .slice (some ⟨e.c, 0, none⟩) e.n e.n, .slice none 0 0, .slice none 0 0, .slice none 0 0] 56)) W' ∧ (∀ o, W'.frozen? ⟨wr.heap.size, o, none⟩ = false) ∧ W'.cell? ⟨wz.heap.size, 0, none⟩ = some (.int .i64 (-(M + 1))) ∧ W'.cell? ⟨wz.heap.size, 1, none⟩ = some (.int .i64 0) ∧ W'.cell? ⟨wz.heap.size, 2, none⟩ = some (.int .u8 0) ∧ W'.cell? ⟨wz.heap.size, 3, none⟩ = some (.int .u8 0) ∧ wr.heap.size < W'.heap.size ∧ wz.heap.size < W'.heap.size) ∧ (∀ o, W'.cell? ⟨wr.heap.size, o, none⟩ = (W.setCell ⟨wr.heap.size, t, none⟩ v).cell? ⟨wr.heap.size, o, none⟩)) := fun W t v O W' hW hgr => by
                have k1 : Kept (fun k => k = wr.heap.size) (wr.alloc (.cells #[.int .i64 (-(M + 1)), .int .i64 0, .int .u8 0, .int .u8 0, .slice (some ⟨e.c, 0, none⟩) e.n e.n, .slice none 0 0, .slice none 0 0, .slice none 0 0] 56)) (W.setCell ⟨wr.heap.size, t, none⟩ v) := hW.1.setCell (b := wr.heap.size) (Or.inl rfl) _
                have k2 : Kept (fun _ => False) (W.setCell ⟨wr.heap.size, t, none⟩ v) W' := ((Kept.refl _ _).alloc _).trans ((grown_kept hgr).wide (fun k x => by cases x))
                have hz : wr.heap.size < (W.setCell ⟨wr.heap.size, t, none⟩ v).heap.size := by rw [World.size_setCell]; exact hW.2.2.2.2.2.2.1
                refine ⟨HPW.out W' (k1.trans (k2.wide (fun _ x => x.elim))) (fun o => ?_), fun o => k2.cell hz (fun x => x) o⟩
                rw [k2.frozen hz (fun x => x), World.frozen?_setCell]
                exact hW.2.1 o
              have HO1 : Hid (∀ b, some (⟨e.c, 0, none⟩ : Addr) = some b → ∀ j u, (cysCells (fun _ => ⟨(-(M + 1)), 0, 0, 0⟩) e.n)[j]? = some u → ((wr.alloc (.cells #[.int .i64 (-(M + 1)), .int .i64 0, .int .u8 0, .int .u8 0, .slice (some ⟨e.c, 0, none⟩) e.n e.n, .slice none 0 0, .slice none 0 0, .slice none 0 0] 56)).alloc (.cells #[.int .i64 (-(M + 1)), .int .i64 0, .int .u8 0, .int .u8 0] 54)).cell? (b.add j) = some u) := fun b hb j u hu => by
                cases hb
                have q := (Raw.kept hr (((Kept.refl (fun _ => False) wr).alloc (.cells #[.int .i64 (-(M + 1)), .int .i64 0, .int .u8 0, .int .u8 0, .slice (some ⟨e.c, 0, none⟩) e.n e.n, .slice none 0 0, .slice none 0 0, .slice none 0 0] 56)).alloc (.cells #[.int .i64 (-(M + 1)), .int .i64 0, .int .u8 0, .int .u8 0] 54)) hecr (fun x => x))
                exact olds_at q j u hu
              have HOn : Hid (∀ (W : World) (t : Nat) (v : Value) (O : Obj), (Kept (fun k => k = wr.heap.size) (wr.alloc (.cells #[.int .i64 (-(M + 1)), .int .i64 0, .int .u8 0, .int .u8 0, .slice (some ⟨e.c, 0, none⟩) e.n e.n, .slice none 0 0, .slice none 0 0, .slice none 0 0] 56)) W ∧ (∀ o, W.frozen? ⟨wr.heap.size, o, none⟩ = false) ∧ W.cell? ⟨wz.heap.size, 0, none⟩ = some (.int .i64 (-(M + 1))) ∧ W.cell? ⟨wz.heap.size, 1, none⟩ = some (.int .i64 0) ∧ W.cell? ⟨wz.heap.size, 2, none⟩ = some (.int .u8 0) ∧ W.cell? ⟨wz.heap.size, 3, none⟩ = some (.int .u8 0) ∧ wr.heap.size < W.heap.size ∧ wz.heap.size < W.heap.size) → ∀ b, some (⟨e.c, 0, none⟩ : Addr) = some b → ∀ j u, (cysCells (fun _ => ⟨(-(M + 1)), 0, 0, 0⟩) e.n)[j]? = some u → ((W.setCell ⟨wr.heap.size, t, none⟩ v).alloc O).cell? (b.add j) = some u) := fun W t v O hW b hb j u hu => by
                cases hb
                have k1 : Kept (fun k => k = wr.heap.size) wr ((W.setCell ⟨wr.heap.size, t, none⟩ v).alloc O) := (((Kept.refl _ wr).alloc _).trans (hW.1.setCell (b := wr.heap.size) (Or.inl rfl) _)).alloc O
                exact olds_at (Raw.kept hr k1 hecr (by omega)) j u hu
              have HN1 : Hid (∀ j u, [Value.int .i64 (-(M + 1)), .int .i64 0, .int .u8 0, .int .u8 0][j]? = some u → ((wr.alloc (.cells #[.int .i64 (-(M + 1)), .int .i64 0, .int .u8 0, .int .u8 0, .slice (some ⟨e.c, 0, none⟩) e.n e.n, .slice none 0 0, .slice none 0 0, .slice none 0 0] 56)).alloc (.cells #[.int .i64 (-(M + 1)), .int .i64 0, .int .u8 0, .int .u8 0] 54)).cell? ((⟨wr.heap.size + 1, 0, none⟩ : Addr).add j) = some u) := fun j u hu => by
                have q := heap_new (wr.alloc (.cells #[.int .i64 (-(M + 1)), .int .i64 0, .int .u8 0, .int .u8 0, .slice (some ⟨e.c, 0, none⟩) e.n e.n, .slice none 0 0, .slice none 0 0, .slice none 0 0] 56)) (.cells #[.int .i64 (-(M + 1)), .int .i64 0, .int .u8 0, .int .u8 0] 54)
                rw [World.size_alloc] at q
                exact World.news_of_block q j u hu
              have HN2 : Hid (∀ (W : World) (t : Nat) (v : Value) j u, [Value.int .i64 (-(M + 1)), .int .i64 0, .int .u8 0, .int .u8 0, .int .i64 (-(M + 1)), .int .i64 0, .int .u8 0, .int .u8 0][j]? = some u → ((W.setCell ⟨wr.heap.size, t, none⟩ v).alloc (.cells #[.int .i64 (-(M + 1)), .int .i64 0, .int .u8 0, .int .u8 0, .int .i64 (-(M + 1)), .int .i64 0, .int .u8 0, .int .u8 0] 54)).cell? ((⟨W.heap.size, 0, none⟩ : Addr).add j) = some u) := fun W t v j u hu => by
                have q := heap_new (W.setCell ⟨wr.heap.size, t, none⟩ v) (.cells #[.int .i64 (-(M + 1)), .int .i64 0, .int .u8 0, .int .u8 0, .int .i64 (-(M + 1)), .int .i64 0, .int .u8 0, .int .u8 0] 54)
                rw [World.size_setCell] at q
                exact World.news_of_block q j u hu
              have HN3 : Hid (∀ (W : World) (t : Nat) (v : Value) j u, [Value.int .i64 (-(M + 1)), .int .i64 0, .int .u8 0, .int .u8 0, .int .i64 (-(M + 1)), .int .i64 0, .int .u8 0, .int .u8 0, .int .i64 (-(M + 1)), .int .i64 0, .int .u8 0, .int .u8 0][j]? = some u → ((W.setCell ⟨wr.heap.size, t, none⟩ v).alloc (.cells #[.int .i64 (-(M + 1)), .int .i64 0, .int .u8 0, .int .u8 0, .int .i64 (-(M + 1)), .int .i64 0, .int .u8 0, .int .u8 0, .int .i64 (-(M + 1)), .int .i64 0, .int .u8 0, .int .u8 0] 54)).cell? ((⟨W.heap.size, 0, none⟩ : Addr).add j) = some u) := fun W t v j u hu => by
                have q := heap_new (W.setCell ⟨wr.heap.size, t, none⟩ v) (.cells #[.int .i64 (-(M + 1)), .int .i64 0, .int .u8 0, .int .u8 0, .int .i64 (-(M + 1)), .int .i64 0, .int .u8 0, .int .u8 0, .int .i64 (-(M + 1)), .int .i64 0, .int .u8 0, .int .u8 0] 54)
                rw [World.size_setCell] at q
                exact World.news_of_block q j u hu
              have H1 : Hid (∀ u ∈ [Value.int .i64 (-(M + 1)), .int .i64 0, .int .u8 0, .int .u8 0], u.oneCell' = true) := fun u hu => by simp at hu; rcases hu with rfl | rfl | rfl <;> rfl
              have H2 : Hid (∀ u ∈ [Value.int .i64 (-(M + 1)), .int .i64 0, .int .u8 0, .int .u8 0, .int .i64 (-(M + 1)), .int .i64 0, .int .u8 0, .int .u8 0], u.oneCell' = true) := fun u hu => by simp at hu; rcases hu with rfl | rfl | rfl | rfl | rfl | rfl <;> rfl
              have H3 : Hid (∀ u ∈ [Value.int .i64 (-(M + 1)), .int .i64 0, .int .u8 0, .int .u8 0, .int .i64 (-(M + 1)), .int .i64 0, .int .u8 0, .int .u8 0, .int .i64 (-(M + 1)), .int .i64 0, .int .u8 0, .int .u8 0], u.oneCell' = true) := fun u hu => by simp at hu; rcases hu with rfl | rfl | rfl | rfl | rfl | rfl | rfl | rfl | rfl <;> rfl
              have HL : Hid _ := cysCells_len (fun _ => ⟨(-(M + 1)), 0, 0, 0⟩) e.n
              have hneq : ¬ wz.heap.size = wr.heap.size := by omega
              have hmax : ∀ t, t ≤ 3 → e.n + t ≤ maxLen ∧ (e.n + t) * 24 ≤ 140737488355328 := fun t ht => ⟨by unfold maxLen; omega, by omega⟩
              have x1 := hmax 1 (by omega)
              have x2 := hmax 2 (by omega)
              have x3 := hmax 3 (by omega)
              clear hmax
              go_wp2_with (first
                | (at_builtin; refine wpList_append_grows _ rfl (.tmp 81) (.tmp 83) 52 rfl 54 i4 z4 4 24 Tryz.underlying52 hi4 hz4 hsize4 hbytes4 hzs4 (by decide) (some ⟨e.c, 0, none⟩) e.n e.n (cysCells (fun _ => ⟨(-(M + 1)), 0, 0, 0⟩) e.n) rfl (fun x => nomatch x) HL.out HO1.out ⟨wr.heap.size + 1, 0, none⟩ 1 1 [.int .i64 (-(M + 1)), .int .i64 0, .int .u8 0, .int .u8 0] rfl rfl HN1.out H1.out (Nat.lt_succ_self _) x1.1 x1.2 ?_; intro v1 w2 hown1 hgrow1; obtain ⟨g1, c1, rfl, hg1b, hg1z⟩ := hown1.form (Nat.succ_pos _); have y2 := HP1.out _ hgrow1; obtain ⟨p2, r2⟩ := y2; have p2' := p2; obtain ⟨_, pf2, pa2, pb2, pc2, pd2, pe2, pg2⟩ := p2')
                | (at_builtin; refine wpList_append_grows _ rfl (.tmp 86) (.tmp 89) 52 rfl 54 i4 z4 4 24 Tryz.underlying52 hi4 hz4 hsize4 hbytes4 hzs4 (by decide) (some ⟨e.c, 0, none⟩) e.n e.n (cysCells (fun _ => ⟨(-(M + 1)), 0, 0, 0⟩) e.n) rfl (fun x => nomatch x) HL.out (HOn.out _ _ _ _ p2) ⟨w2.heap.size, 0, none⟩ 2 2 [.int .i64 (-(M + 1)), .int .i64 0, .int .u8 0, .int .u8 0, .int .i64 (-(M + 1)), .int .i64 0, .int .u8 0, .int .u8 0] rfl rfl (HN2.out _ _ _) H2.out (by omega) x2.1 x2.2 ?_; intro v2 w3 hown2 hgrow2; obtain ⟨g2, c2, rfl, hg2b, hg2z⟩ := hown2.form (Nat.succ_pos _); have y3 := HPn.out _ _ _ _ _ p2 hgrow2; obtain ⟨p3, r3⟩ := y3; have p3' := p3; obtain ⟨_, pf3, pa3, pb3, pc3, pd3, pe3, pg3⟩ := p3')
                | (at_builtin; refine wpList_append_grows _ rfl (.tmp 92) (.tmp 96) 52 rfl 54 i4 z4 4 24 Tryz.underlying52 hi4 hz4 hsize4 hbytes4 hzs4 (by decide) (some ⟨e.c, 0, none⟩) e.n e.n (cysCells (fun _ => ⟨(-(M + 1)), 0, 0, 0⟩) e.n) rfl (fun x => nomatch x) HL.out (HOn.out _ _ _ _ p3) ⟨w3.heap.size, 0, none⟩ 3 3 [.int .i64 (-(M + 1)), .int .i64 0, .int .u8 0, .int .u8 0, .int .i64 (-(M + 1)), .int .i64 0, .int .u8 0, .int .u8 0, .int .i64 (-(M + 1)), .int .i64 0, .int .u8 0, .int .u8 0] rfl rfl (HN3.out _ _ _) H3.out (by omega) x3.1 x3.2 ?_; intro v3 w4 hown3 hgrow3; obtain ⟨g3, c3, rfl, hg3b, hg3z⟩ := hown3.form (Nat.succ_pos _); have y4 := HPn.out _ _ _ _ _ p3 hgrow3; obtain ⟨p4, r4⟩ := y4; have p4' := p4; obtain ⟨_, pf4, pa4, pb4, pc4, pd4, pe4, pg4⟩ := p4'))
              obtain ⟨X4, hX4⟩ : ∃ X4, X4 = (w4.setCell ⟨wr.heap.size, 7, none⟩ (.slice (some ⟨g3, 0, none⟩) (e.n + 3) c3)) := ⟨_, rfl⟩
              have y7 : w4.cell? ⟨wr.heap.size, 7, none⟩ = some (.slice none 0 0) := by simp [r4, r3, r2, go_sem]
              have y6 : X4.cell? ⟨wr.heap.size, 0, none⟩ = some (.int .i64 (-(M + 1))) ∧ X4.cell? ⟨wr.heap.size, 1, none⟩ = some (.int .i64 0) ∧ X4.cell? ⟨wr.heap.size, 2, none⟩ = some (.int .u8 0) ∧ X4.cell? ⟨wr.heap.size, 3, none⟩ = some (.int .u8 0) ∧ X4.cell? ⟨wr.heap.size, 4, none⟩ = some (.slice (some ⟨e.c, 0, none⟩) e.n e.n) ∧ X4.cell? ⟨wr.heap.size, 5, none⟩ = some (.slice (some ⟨g1, 0, none⟩) (e.n + 1) c1) ∧ X4.cell? ⟨wr.heap.size, 6, none⟩ = some (.slice (some ⟨g2, 0, none⟩) (e.n + 2) c2) ∧ X4.cell? ⟨wr.heap.size, 7, none⟩ = some (.slice (some ⟨g3, 0, none⟩) (e.n + 3) c3) := by
                rw [hX4]
                refine ⟨?_, ?_, ?_, ?_, ?_, ?_, ?_, ?_⟩ <;> simp [r4, r3, r2, go_sem]
              have zX : X4.heap.size = w4.heap.size := by rw [hX4, World.size_setCell]
              have kX : Kept (fun k => k = wr.heap.size) w4 X4 := by rw [hX4]; exact (Kept.refl (fun k => k = wr.heap.size) w4).setCell (b := wr.heap.size) (Or.inl rfl) _
              have hgz4 : g < w4.heap.size := by omega
              have hneW : s1.vs.ownBlock ≠ some g := fun x => by have := mid.lo g (by rw [mid.bs g x]; omega); omega
              have kA : Kept (fun _ => False) wr w4 := ⟨p4.1.os, p4.1.tape, p4.1.output, by have := p4.1.size; rw [World.size_alloc] at this; omega, fun k hk _ => (p4.1.block k (by rw [World.size_alloc]; omega) (by omega)).trans (Below.heap_alloc _ _ _ hk)⟩
              have hX : ∀ k, k < wz.heap.size → k ≠ g → k ≠ e.c → w4.heap[k]? = wz.heap[k]? := fun k q1 q2 q3 => (kA.block k (by omega) (fun x => x)).trans ((hkx.block k (by omega) q3).trans (k0.block k q1 q2))
              have how : w4.ownsRow base 56 8 s1.vs s1.se.length (s1.se.flatMap seenCell) := ownsRow_same mid.rs (fun k hk => hX k (mid.lo k (by rw [mid.bs k hk]; omega)).2 (fun x => hneW (x ▸ hk)) (fun x => by have h1 := mid.bs k hk; rw [x, hρ] at h1; omega))
              have c4 : w4.cell? ⟨g, 4, none⟩ = some s1.vs := by rw [kA.cell (b := g) (by omega) (fun x => x), hkx.cell (b := g) (by omega) (by omega), cgo 4 (by omega)]; exact mid.c4
              have f4 : w4.frozen? ⟨g, 4, none⟩ = false := by rw [kA.frozen (b := g) (by omega) (fun x => x), hkx.frozen (b := g) (by omega) (by omega), cgf 4]; exact mid.fz 4 (by omega) (by omega)
              have HOw : Hid (((X4.alloc (.cells #[.int .i64 (-(M + 1)), .int .i64 0, .int .u8 0, .int .u8 0, .slice (some ⟨e.c, 0, none⟩) e.n e.n, .slice (some ⟨g1, 0, none⟩) (e.n + 1) c1, .slice (some ⟨g2, 0, none⟩) (e.n + 2) c2, .slice (some ⟨g3, 0, none⟩) (e.n + 3) c3] 56)).drew).ownsRow base 56 8 s1.vs s1.se.length (s1.se.flatMap seenCell)) := (ownsRow_same how (fun k hk => kX.block k (how.lt k hk).2 (by have := (mid.lo k (by rw [mid.bs k hk]; omega)).2; omega))).alloc _
              have HNb : Hid (∀ j u, [Value.int .i64 (-(M + 1)), .int .i64 0, .int .u8 0, .int .u8 0, .slice (some ⟨e.c, 0, none⟩) e.n e.n, .slice (some ⟨g1, 0, none⟩) (e.n + 1) c1, .slice (some ⟨g2, 0, none⟩) (e.n + 2) c2, .slice (some ⟨g3, 0, none⟩) (e.n + 3) c3][j]? = some u → ((X4.alloc (.cells #[.int .i64 (-(M + 1)), .int .i64 0, .int .u8 0, .int .u8 0, .slice (some ⟨e.c, 0, none⟩) e.n e.n, .slice (some ⟨g1, 0, none⟩) (e.n + 1) c1, .slice (some ⟨g2, 0, none⟩) (e.n + 2) c2, .slice (some ⟨g3, 0, none⟩) (e.n + 3) c3] 56)).drew).cell? ((⟨X4.heap.size, 0, none⟩ : Addr).add j) = some u) := fun j u hu => by
                have q := heap_new X4 (.cells #[.int .i64 (-(M + 1)), .int .i64 0, .int .u8 0, .int .u8 0, .slice (some ⟨e.c, 0, none⟩) e.n e.n, .slice (some ⟨g1, 0, none⟩) (e.n + 1) c1, .slice (some ⟨g2, 0, none⟩) (e.n + 2) c2, .slice (some ⟨g3, 0, none⟩) (e.n + 3) c3] 56)
                exact World.news_of_block q j u hu
              have H8 : Hid (∀ u ∈ [Value.int .i64 (-(M + 1)), .int .i64 0, .int .u8 0, .int .u8 0, .slice (some ⟨e.c, 0, none⟩) e.n e.n, .slice (some ⟨g1, 0, none⟩) (e.n + 1) c1, .slice (some ⟨g2, 0, none⟩) (e.n + 2) c2, .slice (some ⟨g3, 0, none⟩) (e.n + 3) c3], u.oneCell' = true) := fun u hu => by simp at hu; rcases hu with rfl | rfl | rfl | rfl | rfl | rfl | rfl <;> rfl
              have HBs : Hid (base ≤ ((X4.alloc (.cells #[.int .i64 (-(M + 1)), .int .i64 0, .int .u8 0, .int .u8 0, .slice (some ⟨e.c, 0, none⟩) e.n e.n, .slice (some ⟨g1, 0, none⟩) (e.n + 1) c1, .slice (some ⟨g2, 0, none⟩) (e.n + 2) c2, .slice (some ⟨g3, 0, none⟩) (e.n + 3) c3] 56)).drew).heap.size) := by show base ≤ (World.alloc _ _).heap.size; rw [World.size_alloc]; omega
              have hse1 : s1.se.length + 1 ≤ maxLen ∧ (s1.se.length + 1) * 120 ≤ 140737488355328 := by have h1 := HQ.out.2.2.2.1; exact ⟨by unfold maxLen; omega, by omega⟩
              have HE5 : Hid (∀ w5, ((X4.alloc (.cells #[.int .i64 (-(M + 1)), .int .i64 0, .int .u8 0, .int .u8 0, .slice (some ⟨e.c, 0, none⟩) e.n e.n, .slice (some ⟨g1, 0, none⟩) (e.n + 1) c1, .slice (some ⟨g2, 0, none⟩) (e.n + 2) c2, .slice (some ⟨g3, 0, none⟩) (e.n + 3) c3] 56)).drew).grownBy w5 s1.vs.ownBlock → w5.cell? ⟨g, 4, none⟩ = some s1.vs ∧ w5.frozen? ⟨g, 4, none⟩ = false) := fun w5 hgr => by
                have kk : Kept (fun k => k = wr.heap.size ∨ s1.vs.ownBlock = some k) w4 w5 := (((kX.wide (T := fun k => k = wr.heap.size ∨ s1.vs.ownBlock = some k) (fun k x => Or.inl x)).alloc _).drew).trans ((grown_kept hgr).wide (fun k x => Or.inr x))
                exact ⟨(kk.cell hgz4 (fun x => by rcases x with x | x; omega; exact hneW x) 4).trans c4, (kk.frozen hgz4 (fun x => by rcases x with x | x; omega; exact hneW x) 4).trans f4⟩
              have c4x : X4.cell? ⟨g, 4, none⟩ = some s1.vs := by rw [kX.cell hgz4 (by omega)]; exact c4
              have zgX : g < X4.heap.size := by omega
              have zpX : wr.heap.size < X4.heap.size := by omega
              have k23 : Kept (fun k => k = wr.heap.size) w2 w3 := (((Kept.refl (fun k => k = wr.heap.size) w2).setCell (b := wr.heap.size) (Or.inl rfl) _).alloc _).trans ((grown_kept hgrow2).wide (fun k x => by cases x))
              have k34 : Kept (fun k => k = wr.heap.size) w3 w4 := (((Kept.refl (fun k => k = wr.heap.size) w3).setCell (b := wr.heap.size) (Or.inl rfl) _).alloc _).trans ((grown_kept hgrow3).wide (fun k x => by cases x))
              have hb1 : wr.heap.size + 2 ≤ g1 := by have h1 := (hown1.lt g1 rfl).1; rw [World.size_alloc, World.size_alloc] at h1; exact h1
              have hb2 : wr.heap.size + 2 ≤ g2 := by have h1 := (hown2.lt g2 rfl).1; rw [World.size_alloc, World.size_setCell] at h1; have h2 := hgrow1.size; rw [World.size_alloc, World.size_alloc] at h2; omega
              have hb3 : wr.heap.size + 2 ≤ g3 := by have h1 := (hown3.lt g3 rfl).1; rw [World.size_alloc, World.size_setCell] at h1; have h2 := hgrow1.size; rw [World.size_alloc, World.size_alloc] at h2; have h3 := k23.size; omega
              have N1 : Marked w4 g1 (e.n + 1) (-(M + 1)) := (marked_row hown1 (longer _ e.n 1 _ (fun r hr => by rcases (by omega : r = 0 ∨ r = 1 ∨ r = 2 ∨ r = 3) with x | x | x | x <;> subst x <;> rfl))).same ((k34.block g1 (Nat.lt_of_lt_of_le hg1z k23.size) (by omega)).trans (k23.block g1 hg1z (by omega)))
              have N2 : Marked w4 g2 (e.n + 2) (-(M + 1)) := (marked_row hown2 (longer _ e.n 2 _ (fun r hr => by rcases (by omega : r = 0 ∨ r = 1 ∨ r = 2 ∨ r = 3 ∨ r = 4 ∨ r = 5 ∨ r = 6 ∨ r = 7) with x | x | x | x | x | x | x | x <;> subst x <;> rfl))).same (k34.block g2 hg2z (by omega))
              have N3 : Marked w4 g3 (e.n + 3) (-(M + 1)) := marked_row hown3 (longer _ e.n 3 _ (fun r hr => by rcases (by omega : r = 0 ∨ r = 1 ∨ r = 2 ∨ r = 3 ∨ r = 4 ∨ r = 5 ∨ r = 6 ∨ r = 7 ∨ r = 8 ∨ r = 9 ∨ r = 10 ∨ r = 11) with x | x | x | x | x | x | x | x | x | x | x | x <;> subst x <;> rfl))
              have HFIN : Hid (∀ w5 g' cap', w5.ownsRow base 56 8 (.slice (some ⟨g', 0, none⟩) (s1.se.length + 1) cap') (s1.se.length + 1) (s1.se.flatMap seenCell ++ [.int .i64 (-(M + 1)), .int .i64 0, .int .u8 0, .int .u8 0, .slice (some ⟨e.c, 0, none⟩) e.n e.n, .slice (some ⟨g1, 0, none⟩) (e.n + 1) c1, .slice (some ⟨g2, 0, none⟩) (e.n + 2) c2, .slice (some ⟨g3, 0, none⟩) (e.n + 3) c3]) → ((X4.alloc (.cells #[.int .i64 (-(M + 1)), .int .i64 0, .int .u8 0, .int .u8 0, .slice (some ⟨e.c, 0, none⟩) e.n e.n, .slice (some ⟨g1, 0, none⟩) (e.n + 1) c1, .slice (some ⟨g2, 0, none⟩) (e.n + 2) c2, .slice (some ⟨g3, 0, none⟩) (e.n + 3) c3] 56)).drew).grownBy w5 s1.vs.ownBlock → (s1.vs.ownBlock = some g' ∨ g' = ((X4.alloc (.cells #[.int .i64 (-(M + 1)), .int .i64 0, .int .u8 0, .int .u8 0, .slice (some ⟨e.c, 0, none⟩) e.n e.n, .slice (some ⟨g1, 0, none⟩) (e.n + 1) c1, .slice (some ⟨g2, 0, none⟩) (e.n + 2) c2, .slice (some ⟨g3, 0, none⟩) (e.n + 3) c3] 56)).drew).heap.size) →
                  ∃ (j_1 : Nat) (ρ1 : Nat → Nat) (s1_1 : Ls), j_1 ≤ s.ws.length ∧ Value.int .i64 ((j : Int) + 1) = .int .i64 j_1 ∧ MidL g base j_1 ρ1 s1_1 (w5.setCell ⟨g, 4, none⟩ (.slice (some ⟨g', 0, none⟩) (s1.se.length + 1) cap')) ∧ s1_1.ws = s.ws ∧ s1_1.vw = s.vw ∧ s1_1.se.length = s.se.length + j_1 ∧ s1_1.le = s.le ∧ s1_1.m = s.m + j_1 ∧ (∀ k, k < w.heap.size → ρ k = 0 → ρ1 k = 0) ∧ Kept (fun k => k = g ∨ ρ k ≠ 0) w (w5.setCell ⟨g, 4, none⟩ (.slice (some ⟨g', 0, none⟩) (s1.se.length + 1) cap')) ∧ (w5.setCell ⟨g, 4, none⟩ (.slice (some ⟨g', 0, none⟩) (s1.se.length + 1) cap')).cell? ⟨g, 0, none⟩ = w.cell? ⟨g, 0, none⟩ ∧ (w5.setCell ⟨g, 4, none⟩ (.slice (some ⟨g', 0, none⟩) (s1.se.length + 1) cap')).frozen? ⟨g, 0, none⟩ = w.frozen? ⟨g, 0, none⟩) := fun w5 g' cap' y1 y2 y3 => by
                obtain ⟨hM, ews, evw, hse, hle, hmm⟩ := HQ.out
                have kk : Kept (fun k => k = wr.heap.size ∨ s1.vs.ownBlock = some k) w4 w5 := (((kX.wide (T := fun k => k = wr.heap.size ∨ s1.vs.ownBlock = some k) (fun k x => Or.inl x)).alloc _).drew).trans ((grown_kept y2).wide (fun k x => Or.inr x))
                obtain ⟨ρ', s', t1, t2, t3, t4, t5, t6, t7, t8, t9, t10⟩ := settle_round mid hM (by rw [ews]; exact he) k0 cg1 cgo cgf hkx mk kA (Nat.le_refl _) N1 N2 N3 ⟨by omega, Nat.lt_of_lt_of_le hg1z (Nat.le_trans k23.size k34.size), by omega⟩ ⟨by omega, Nat.lt_of_lt_of_le hg2z k34.size, by omega⟩ ⟨by omega, hg3z, by omega⟩ kk y1 (by
                  rcases y3 with x | x
                  · exact Or.inl x
                  · have x' : g' = (X4.alloc (.cells #[.int .i64 (-(M + 1)), .int .i64 0, .int .u8 0, .int .u8 0, .slice (some ⟨e.c, 0, none⟩) e.n e.n, .slice (some ⟨g1, 0, none⟩) (e.n + 1) c1, .slice (some ⟨g2, 0, none⟩) (e.n + 2) c2, .slice (some ⟨g3, 0, none⟩) (e.n + 3) c3] 56)).heap.size := x
                    rw [World.size_alloc] at x'
                    exact Or.inr (by omega))
                have hwz := hkk.size
                refine ⟨j + 1, ρ', s', by omega, by go_num, t1, t2.trans ews, t3.trans evw, by omega, t5.trans hle, by omega, fun k hk hk0 => t7 k (by omega) (hz1 k hk hk0), ?_, t9.trans HG.out.1, t10.trans HG.out.2⟩
                refine ⟨t8.os.trans hkk.os, t8.tape.trans hkk.tape, t8.output.trans hkk.output, Nat.le_trans hkk.size t8.size, fun k hk hS => ?_⟩
                have q1 : k ≠ g := fun x => hS (Or.inl x)
                have q2 : ρ k = 0 := Classical.byContradiction fun x => hS (Or.inr x)
                exact (t8.block k (by omega) (fun x => by rcases x with x | x; exact q1 x; exact x (hz1 k hk q2))).trans (hkk.block k hk hS)
              obtain ⟨z0', z1', z2', z3', z4', z5', z6', z7'⟩ := y6
              rw [← hX4]
              clear zX hX4 hown1 hown2 hown3 hgrow1 hgrow2 hgrow3 N1 N2 N3 k23 k34 p2 p3 p4 r2 r3 r4 pf2 pf3 pf4 pa2 pa3 pa4 pb2 pb3 pb4 pc2 pc3 pc4 pd2 pd3 pd4 pe2 pe3 pe4 pg2 pg3 pg4 HP1 HPn HPW HO1 HOn HN1 HN2 HN3 H1 H2 H3 mk kA hX how c4 f4 kX y7 cg1 cgo cgf k0 hkk hz1 hr m0 m1 m2 m3 hg1b hg1z hg2b hg2z hg3b hg3z cm
              go_wp2
              go_region_law (refine step_append_lies _ rfl (.tmp 103) (.tmp 105) 28 rfl base 56 i8 z8 8 120 Tryz.underlying28 hi8 hz8 hsize8 hbytes8 hzs8 (by decide) s1.vs s1.se.length (s1.se.flatMap seenCell) rfl HOw.out ⟨X4.heap.size, 0, none⟩ 1 1 [.int .i64 (-(M + 1)), .int .i64 0, .int .u8 0, .int .u8 0, .slice (some ⟨e.c, 0, none⟩) e.n e.n, .slice (some ⟨g1, 0, none⟩) (e.n + 1) c1, .slice (some ⟨g2, 0, none⟩) (e.n + 2) c2, .slice (some ⟨g3, 0, none⟩) (e.n + 3) c3] rfl rfl HNb.out H8.out (by decide) hse1.1 hse1.2 HBs.out _ rfl ?_; intro g' cap' w5 hown5 hgrow5 hat5 hlt5; have e6 := HE5.out _ hgrow5; obtain ⟨e6c, e6f⟩ := e6)
              all_goals
                go_wp2
                exact ⟨HFIN.out _ _ _ hown5 hgrow5 hat5, by simp [intOf]; omega⟩
        · have hjn' : ¬ (j : Int) < (s.ws.length : Int) := by omega
          have f2 := mid.fz 2 (by omega) (by omega)
          have f3 := mid.fz 3 (by omega) (by omega)
          have e3 := mid.c3
          have hje : j = s.ws.length := by omega
          have HEND : Hid (SettlePost g base ρ s w ((wr.setCell ⟨g, 2, none⟩ (.slice none 0 0)).setCell ⟨g, 3, none⟩ (.slice none 0 0))) := by
            have hgb := mid.gb
            have cc : ∀ i, i ≠ 2 → i ≠ 3 → ((wr.setCell ⟨g, 2, none⟩ (.slice none 0 0)).setCell ⟨g, 3, none⟩ (.slice none 0 0)).cell? ⟨g, i, none⟩ = wr.cell? ⟨g, i, none⟩ := fun i i2 i3 => by
              rw [World.cell?_setCell_other _ _ _ _ (by intro x; exact i3 (congrArg Addr.off x).symm), World.cell?_setCell_other _ _ _ _ (by intro x; exact i2 (congrArg Addr.off x).symm)]
            have d2 : ((wr.setCell ⟨g, 2, none⟩ (.slice none 0 0)).setCell ⟨g, 3, none⟩ (.slice none 0 0)).cell? ⟨g, 2, none⟩ = some (.slice none 0 0) := by
              rw [World.cell?_setCell_other _ _ _ _ (by intro x; have := congrArg Addr.off x; simp at this)]
              exact World.cell?_setCell_same _ _ _ mid.c2
            have d3 : ((wr.setCell ⟨g, 2, none⟩ (.slice none 0 0)).setCell ⟨g, 3, none⟩ (.slice none 0 0)).cell? ⟨g, 3, none⟩ = some (.slice none 0 0) := by
              have t3 : (wr.setCell ⟨g, 2, none⟩ (.slice none 0 0)).cell? ⟨g, 3, none⟩ = some s1.vr := by
                rw [World.cell?_setCell_other _ _ _ _ (by intro x; have := congrArg Addr.off x; simp at this)]
                exact mid.c3
              exact World.cell?_setCell_same _ _ _ t3
            have hb : ∀ k, ρ1 k ≠ 0 → ((wr.setCell ⟨g, 2, none⟩ (.slice none 0 0)).setCell ⟨g, 3, none⟩ (.slice none 0 0)).heap[k]? = wr.heap[k]? := fun k hk => by
              have := mid.lo k hk
              exact (Below.heap_setCell _ _ _ _ (by show k ≠ g; omega)).trans (Below.heap_setCell _ _ _ _ (by show k ≠ g; omega))
            refine ⟨ρ1, { s1 with vw := .slice none 0 0, vr := .slice none 0 0, ws := [] }, ⟨hgb, fun k hk => ?_, (cc 1 (by omega) (by omega)).trans mid.c1, d2, d3, (cc 4 (by omega) (by omega)).trans mid.c4, (cc 5 (by omega) (by omega)).trans mid.c5, fun i i1 i6 => ?_, World.ownsRow_nil _ _ _ _, World.ownsRow_nil _ _ _ _, ?_, ?_, fun k hk => (by cases hk), fun k hk => (by cases hk), mid.bs, mid.bl, fun i e he => (by cases he), fun i e he => (mid.es i e he).same hb, fun i e he => (mid.el i e he).same hb, mid.m0⟩, rfl, by rw [← hje]; exact hse, hle, by rw [← hje]; exact hmm, hz1, (hkk.setCell (b := g) (Or.inl (Or.inl rfl)) _).setCell (b := g) (Or.inl (Or.inl rfl)) _, (cc 0 (by omega) (by omega)).trans HG.out.1, by rw [World.frozen?_setCell, World.frozen?_setCell]; exact HG.out.2⟩
            · rw [World.size_setCell, World.size_setCell]
              exact mid.lo k hk
            · rw [World.frozen?_setCell, World.frozen?_setCell]
              exact mid.fz i i1 i6
            · exact ownsRow_same mid.rs (fun k hk => hb k (by rw [mid.bs k hk]; omega))
            · exact ownsRow_same mid.rl (fun k hk => hb k (by rw [mid.bl k hk]; omega))
          clear ews evw hse hle hmm hje
          go_wp2
          go_ret
          exact ⟨rfl, HEND.out⟩

end Go.Proofs.YtikdbpphbdbdnaaGreat
