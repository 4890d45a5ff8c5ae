/- Lists that were handed in: wholeInputs. -/
import Derived.Test.YtikdbpphbdbdnaaGreatLent1
import Derived.Deep.AppendLies
import Derived.Deep.RegionLaw
namespace Go.Proofs.YtikdbpphbdbdnaaGreat
open Go.RowKit
set_option linter.unusedVariables false

theorem lent_info : (Tryz.prog.info? 59).map (fun i => (i.size, i.bytes, i.zero.map (·.cells.size))) = some (4, 48, some 4) := by kernel_rfl

theorem info_of {t : TypeId} {a b c : Nat} (h : (Tryz.prog.info? t).map (fun i => (i.size, i.bytes, i.zero.map (·.cells.size))) = some (a, b, some c)) : ∃ i z, Tryz.prog.info? t = some i ∧ i.zero = some z ∧ i.size = a ∧ i.bytes = b ∧ z.cells.size = c := by
  cases hi : Tryz.prog.info? t with
  | none => rw [hi] at h; cases h
  | some i =>
    rw [hi] at h
    simp only [Option.map_some, Option.some.injEq, Prod.mk.injEq] at h
    obtain ⟨h1, h2, h3⟩ := h
    cases hz : i.zero with
    | none => rw [hz] at h3; cases h3
    | some z =>
      rw [hz] at h3
      simp only [Option.map_some, Option.some.injEq] at h3
      exact ⟨i, z, rfl, hz, h1, h2, h3⟩

theorem row_block' {w : World} {base : Nat} {e : TypeId} {size : Nat} {v : Value} {n : Nat} {xs : List Value} (h : w.ownsRow base e size v n xs) {k : Nat} (hk : v.ownBlock = some k) : base ≤ k ∧ k < w.heap.size := h.lt k hk

set_option maxRecDepth 100000 in
set_option maxHeartbeats 1000000 in
theorem whole_nil (g n cap ll lc : Nat) (o : Option Addr) (w : World) : Calls Tryz.prog 33 #[.pointer (some ⟨g, 0, none⟩), .slice o n cap, .slice none ll lc] w fun e w' => e = .returned (.bool true) ∧ w' = w := by
  have hq := fun w => eql_nil w none ll lc
  go_enter Tryz.func33, Tryz.ntmps33
  go_wp2
  go_ret
  exact ⟨rfl, rfl⟩

set_option maxRecDepth 100000 in
set_option maxHeartbeats 2000000 in
theorem whole_any (g base B n lc len : Nat) (a : Addr) (M : Int) (vl : Value) (xs : List Value) (ins : Nat → In) (w : World) (hn : n ≤ 1048576) (hM0 : 0 ≤ M) (hM1 : M ≤ 4611686018427387904)
    (h : n = 0 ∨ ∃ b off, a = ⟨b, off, none⟩ ∧ b < w.heap.size ∧ b ≠ B ∧ b ≠ g ∧ InsAt w b off n ins) (hB : InsRaw w B (n + 8) (lentIn ins n)) (hBz : B < w.heap.size) (hBg : B ≠ g) (hgz : g < base) (hbz : base ≤ w.heap.size)
    (c1 : w.cell? ⟨g, 1, none⟩ = some (.int .i64 M)) (f1 : w.frozen? ⟨g, 1, none⟩ = false) (c5 : w.cell? ⟨g, 5, none⟩ = some vl) (f5 : w.frozen? ⟨g, 5, none⟩ = false)
    (hown : w.ownsRow base 59 4 vl len xs) (hvB : vl.ownBlock ≠ some B) (h63 : len + 1 ≤ maxLen) (hby : (len + 1) * 48 ≤ 140737488355328) :
    Calls Tryz.prog 33 #[.pointer (some ⟨g, 0, none⟩), .slice (some ⟨B, 0, none⟩) n (n + 8), .slice (some a) n lc] w fun e w' => e = .returned (.bool true) ∧
      InsRaw w' B (n + 8) (fun _ => ⟨false, -(M + 1), 0⟩) ∧ w'.cell? ⟨g, 1, none⟩ = some (.int .i64 (M + 1)) ∧
      ∃ g' cap', w'.cell? ⟨g, 5, none⟩ = some (.slice (some ⟨g', 0, none⟩) (len + 1) cap') ∧ w'.ownsRow base 59 4 (.slice (some ⟨g', 0, none⟩) (len + 1) cap') (len + 1) (xs ++ [.bool false, .int .i64 (-(M + 1)), .int .u8 0, .slice (some ⟨B, 0, none⟩) (n + 8) (n + 8)]) ∧ (vl.ownBlock = some g' ∨ w.heap.size ≤ g') ∧ Kept (fun k => k = g ∨ k = B ∨ vl.ownBlock = some k) w w' ∧ (∀ j, j ≠ 1 → j ≠ 5 → w'.cell? ⟨g, j, none⟩ = w.cell? ⟨g, j, none⟩) ∧ (∀ j, w'.frozen? ⟨g, j, none⟩ = w.frozen? ⟨g, j, none⟩) := by
  have hq := fun w => eql_nil w (some a) n lc
  have hg := lt_of_cell c1
  go_enter Tryz.func33, Tryz.ntmps33
  go_wp2
  obtain ⟨W0, hW0⟩ : ∃ W0 : World, W0 = (w.setCell ⟨g, 1, none⟩ (.int .i64 (M + 1))).alloc (.cells #[.bool false, .int .i64 (-(M + 1)), .int .u8 0] 40) := ⟨_, rfl⟩
  have z0 : W0.heap.size = w.heap.size + 1 := by rw [hW0, World.size_alloc, World.size_setCell]
  have k0 : Kept (fun k => k = g) w W0 := by rw [hW0]; exact ((Kept.refl (fun k => k = g) w).setCell (b := g) (Or.inl rfl) _).alloc _
  have cg1 : W0.cell? ⟨g, 1, none⟩ = some (.int .i64 (M + 1)) := by
    rw [hW0, World.cell?_alloc_past _ _ _ (by rw [World.size_setCell]; exact hg)]
    exact World.cell?_setCell_same _ _ _ c1
  have cgo : ∀ j, j ≠ 1 → W0.cell? ⟨g, j, none⟩ = w.cell? ⟨g, j, none⟩ := fun j hj => by
    rw [hW0, World.cell?_alloc_past _ _ _ (by rw [World.size_setCell]; exact hg)]
    exact World.cell?_setCell_other _ _ _ _ (by intro x; exact hj (congrArg Addr.off x).symm)
  have cgf : ∀ j, W0.frozen? ⟨g, j, none⟩ = w.frozen? ⟨g, j, none⟩ := fun j => by
    rw [hW0, World.frozen?_alloc_past _ _ _ (by rw [World.size_setCell]; exact hg)]
    exact World.frozen?_setCell _ _ _ _
  have cm : W0.cell? ⟨w.heap.size, 0, none⟩ = some (.bool false) ∧ W0.cell? ⟨w.heap.size, 1, none⟩ = some (.int .i64 (-(M + 1))) ∧ W0.cell? ⟨w.heap.size, 2, none⟩ = some (.int .u8 0) := by
    rw [hW0]
    exact ⟨by simp [go_sem], by simp [go_sem], by simp [go_sem]⟩
  have r0 : InsRaw W0 B (n + 8) (lentIn ins n) := Raw.kept hB k0 hBz hBg
  rw [← hW0]
  clear hW0 hB
  go_loopw [10, 11] (fun t10 t11 wx => ∃ j : Nat, j ≤ n + 8 ∧ t10 = .bool true ∧ t11 = .int .i64 j ∧ InsRaw wx B (n + 8) (fun i => if i < j then ⟨false, -(M + 1), 0⟩ else lentIn ins n i) ∧ Kept (fun k => k = B) W0 wx) (fun _ t11 _ => n + 8 - (intOf t11).toNat)
  case atStart => exact ⟨0, by omega, rfl, rfl, r0, Kept.refl _ _⟩
  case round =>
    obtain ⟨j, hj, rfl, rfl, hr, hk⟩ := hrel
    have hzB : B ≠ w.heap.size := by omega
    have m0 : wr.cell? ⟨w.heap.size, 0, none⟩ = some (.bool false) := by rw [hk.cell (b := w.heap.size) (by omega) (fun x => hzB x.symm)]; exact cm.1
    have m1 : wr.cell? ⟨w.heap.size, 1, none⟩ = some (.int .i64 (-(M + 1))) := by rw [hk.cell (b := w.heap.size) (by omega) (fun x => hzB x.symm)]; exact cm.2.1
    have m2 : wr.cell? ⟨w.heap.size, 2, none⟩ = some (.int .u8 0) := by rw [hk.cell (b := w.heap.size) (by omega) (fun x => hzB x.symm)]; exact cm.2.2
    have zr : w.heap.size < wr.heap.size := by have := hk.size; omega
    have zB : B < wr.heap.size := by omega
    clear r0 c1 f1
    by_cases hjn : j < n + 8
    · have hjn' : (j : Int) < (n : Int) + 8 := by omega
      have HFin : Hid (InsRaw (((wr.setCell ⟨B, j * 3, none⟩ (.bool false)).setCell ⟨B, j * 3 + 1, none⟩ (.int .i64 (-(M + 1)))).setCell ⟨B, j * 3 + 2, none⟩ (.int .u8 0)) B (n + 8) (fun i => if i < j + 1 then ⟨false, -(M + 1), 0⟩ else lentIn ins n i)) := by
        refine raw_put3 hr hjn (inCell ⟨false, -(M + 1), 0⟩) fun k hk => ?_
        dsimp only
        by_cases e : k / 3 = j
        · rw [if_pos e, if_pos (by omega)]
        · rw [if_neg e]
          by_cases e1 : k / 3 < j
          · rw [if_pos e1, if_pos (by omega)]
          · rw [if_neg e1, if_neg (by omega)]
      obtain ⟨a0, b0⟩ := hr (j * 3) (by omega)
      obtain ⟨a1, b1⟩ := hr (j * 3 + 1) (by omega)
      obtain ⟨a2, b2⟩ := hr (j * 3 + 2) (by omega)
      dsimp only at a0 a1 a2
      rw [show j * 3 / 3 = j by omega, if_neg (by omega), show j * 3 % 3 = 0 by omega] at a0
      rw [show (j * 3 + 1) / 3 = j by omega, if_neg (by omega), show (j * 3 + 1) % 3 = 1 by omega] at a1
      rw [show (j * 3 + 2) / 3 = j by omega, if_neg (by omega), show (j * 3 + 2) % 3 = 2 by omega] at a2
      by_cases hjl : j < n
      · have hjl' : (j : Int) < (n : Int) := by omega
        rcases h with h | ⟨b, off, rfl, hb, hbB, hbg, h⟩
        · omega
        obtain ⟨p0, p1, i0, i1, i2⟩ := h j hjl
        have el : lentIn ins n j = ins j := if_pos hjl
        rw [el] at a0 a1 a2
        have i0' : wr.cell? ⟨b, off + j * 3, none⟩ = some (.bool (ins j).reset) := by rw [hk.cell (b := b) (by omega) hbB, k0.cell hb hbg]; exact i0
        have i1' : wr.cell? ⟨b, off + j * 3 + 1, none⟩ = some (.int .i64 (ins j).volts) := by rw [hk.cell (b := b) (by omega) hbB, k0.cell hb hbg]; exact i1
        have i2' : wr.cell? ⟨b, off + j * 3 + 2, none⟩ = some (.int .u8 (ins j).port) := by rw [hk.cell (b := b) (by omega) hbB, k0.cell hb hbg]; exact i2
        have zb : b < wr.heap.size := by have := hk.size; omega
        clear i0 i1 i2 el hr
        generalize ins j = I at *
        obtain ⟨rs, v, p⟩ := I
        dsimp only [inCell] at a0 a1 a2 i0' i1' i2'
        go_wp2
        have HSx : Hid (∀ W : World, Kept (fun _ => False) (wr.alloc (.cells #[.bool rs, .int .i64 v, .int .u8 p] 40)) W → W.cell? ⟨B, j * 3, none⟩ = some (.bool rs) ∧ W.cell? ⟨B, j * 3 + 1, none⟩ = some (.int .i64 v) ∧ W.cell? ⟨B, j * 3 + 2, none⟩ = some (.int .u8 p) ∧ W.cell? ⟨wr.heap.size, 0, none⟩ = some (.bool rs) ∧ W.cell? ⟨wr.heap.size, 1, none⟩ = some (.int .i64 v) ∧ W.cell? ⟨wr.heap.size, 2, none⟩ = some (.int .u8 p)) := fun W hW =>
          ⟨by rw [hW.cell (b := B) (by simp; omega) (fun x => x), World.cell?_alloc_past _ _ _ zB]; exact a0, by rw [hW.cell (b := B) (by simp; omega) (fun x => x), World.cell?_alloc_past _ _ _ zB]; exact a1, by rw [hW.cell (b := B) (by simp; omega) (fun x => x), World.cell?_alloc_past _ _ _ zB]; exact a2,
            by rw [hW.cell (b := wr.heap.size) (by simp) (fun x => x)]; simp [go_sem], by rw [hW.cell (b := wr.heap.size) (by simp) (fun x => x)]; simp [go_sem], by rw [hW.cell (b := wr.heap.size) (by simp) (fun x => x)]; simp [go_sem]⟩
        go_region_held3 (fun W => W.cell? ⟨B, j * 3, none⟩ = some (.bool rs) ∧ W.cell? ⟨B, j * 3 + 1, none⟩ = some (.int .i64 v) ∧ W.cell? ⟨B, j * 3 + 2, none⟩ = some (.int .u8 p) ∧ W.cell? ⟨wr.heap.size, 0, none⟩ = some (.bool rs) ∧ W.cell? ⟨wr.heap.size, 1, none⟩ = some (.int .i64 v) ∧ W.cell? ⟨wr.heap.size, 2, none⟩ = some (.int .u8 p)) (first | exact HSx.out _ (Kept.refl _ _).drew) (first | fail)
        all_goals
          go_wp2
          refine ⟨⟨j + 1, by omega, rfl, by go_num, ?_, ?_⟩, by simp [intOf]; omega⟩
          · exact Raw.kept HFin.out ((Kept.refl (fun _ => False) _).alloc _).drew (by simpa using zB) (fun x => x)
          · exact ((((hk.setCell (b := B) (Or.inl rfl) _).setCell (b := B) (Or.inl rfl) _).setCell (b := B) (Or.inl rfl) _).alloc _).drew
      · have hjl' : ¬ (j : Int) < (n : Int) := by omega
        have el : lentIn ins n j = ⟨false, 77, 0⟩ := if_neg hjl
        rw [el] at a0 a1 a2
        dsimp only [inCell] at a0 a1 a2
        clear hr el
        go_wp2
        have HSx : Hid (∀ W : World, Kept (fun _ => False) (wr.alloc (.cells #[.bool false, .int .i64 77, .int .u8 0] 40)) W → W.cell? ⟨B, j * 3, none⟩ = some (.bool false) ∧ W.cell? ⟨B, j * 3 + 1, none⟩ = some (.int .i64 77) ∧ W.cell? ⟨B, j * 3 + 2, none⟩ = some (.int .u8 0) ∧ W.cell? ⟨wr.heap.size, 0, none⟩ = some (.bool false) ∧ W.cell? ⟨wr.heap.size, 1, none⟩ = some (.int .i64 77) ∧ W.cell? ⟨wr.heap.size, 2, none⟩ = some (.int .u8 0)) := fun W hW =>
          ⟨by rw [hW.cell (b := B) (by simp; omega) (fun x => x), World.cell?_alloc_past _ _ _ zB]; exact a0, by rw [hW.cell (b := B) (by simp; omega) (fun x => x), World.cell?_alloc_past _ _ _ zB]; exact a1, by rw [hW.cell (b := B) (by simp; omega) (fun x => x), World.cell?_alloc_past _ _ _ zB]; exact a2,
            by rw [hW.cell (b := wr.heap.size) (by simp) (fun x => x)]; simp [go_sem], by rw [hW.cell (b := wr.heap.size) (by simp) (fun x => x)]; simp [go_sem], by rw [hW.cell (b := wr.heap.size) (by simp) (fun x => x)]; simp [go_sem]⟩
        go_region_held3 (fun W => W.cell? ⟨B, j * 3, none⟩ = some (.bool false) ∧ W.cell? ⟨B, j * 3 + 1, none⟩ = some (.int .i64 77) ∧ W.cell? ⟨B, j * 3 + 2, none⟩ = some (.int .u8 0) ∧ W.cell? ⟨wr.heap.size, 0, none⟩ = some (.bool false) ∧ W.cell? ⟨wr.heap.size, 1, none⟩ = some (.int .i64 77) ∧ W.cell? ⟨wr.heap.size, 2, none⟩ = some (.int .u8 0)) (first | exact HSx.out _ (Kept.refl _ _).drew) (first | fail)
        all_goals
          go_wp2
          refine ⟨⟨j + 1, by omega, rfl, by go_num, ?_, ?_⟩, by simp [intOf]; omega⟩
          · exact Raw.kept HFin.out ((Kept.refl (fun _ => False) _).alloc _).drew (by simpa using zB) (fun x => x)
          · exact ((((hk.setCell (b := B) (Or.inl rfl) _).setCell (b := B) (Or.inl rfl) _).setCell (b := B) (Or.inl rfl) _).alloc _).drew
    · have hjn' : ¬ (j : Int) < (n : Int) + 8 := by omega
      have hje : j = n + 8 := by omega
      obtain ⟨i, z, hi, hz, hsize, hbytes, hzs⟩ := info_of lent_info
      have zg : g < wr.heap.size := by omega
      have hne : vl.ownBlock ≠ some g := fun e => by have := (row_block' hown e).1; omega
      have hnz : vl.ownBlock ≠ some w.heap.size := fun e => by have := (row_block' hown e).2; omega
      have k1 : Kept (fun k => k = g ∨ k = B) w wr := (k0.wide (fun k hk => Or.inl hk)).trans (hk.wide (fun k hk => Or.inr hk))
      have hownr : wr.ownsRow base 59 4 vl len xs := ownsRow_same hown (fun k hk2 => k1.block k (row_block' hown hk2).2 (fun x => by rcases x with x | x; exact hne (x ▸ hk2); exact hvB (x ▸ hk2)))
      have hownX : ∀ o, ((wr.alloc o).drew).ownsRow base 59 4 vl len xs := fun o => hownr.alloc o
      have c5r : wr.cell? ⟨g, 5, none⟩ = some vl := by rw [hk.cell (b := g) (by omega) (fun x => hBg x.symm), cgo 5 (by omega)]; exact c5
      have f5r : wr.frozen? ⟨g, 5, none⟩ = false := by rw [hk.frozen (b := g) (by omega) (fun x => hBg x.symm), cgf 5]; exact f5
      have hec : ∀ w4, ((wr.alloc (.cells #[.bool false, .int .i64 (-(M + 1)), .int .u8 0, .slice (some ⟨B, 0, none⟩) (n + 8) (n + 8)] 59)).drew).grownBy w4 vl.ownBlock → w4.cell? ⟨g, 5, none⟩ = some vl := fun w4 hgr => (World.cell?_of_block (w := wr) (a := ⟨g, 5, none⟩) ((hgr.block _ (by show _ < (wr.alloc _).heap.size; rw [World.size_alloc]; omega) (fun x => hne x.symm)).trans (Below.heap_alloc wr _ _ zg))).trans c5r
      have hef : ∀ w4, ((wr.alloc (.cells #[.bool false, .int .i64 (-(M + 1)), .int .u8 0, .slice (some ⟨B, 0, none⟩) (n + 8) (n + 8)] 59)).drew).grownBy w4 vl.ownBlock → w4.frozen? ⟨g, 5, none⟩ = false := fun w4 hgr => (World.frozen?_of_block (w := wr) (a := ⟨g, 5, none⟩) ((hgr.block _ (by show _ < (wr.alloc _).heap.size; rw [World.size_alloc]; omega) (fun x => hne x.symm)).trans (Below.heap_alloc wr _ _ zg))).trans f5r
      have HN : Hid (∀ j u, [Value.bool false, .int .i64 (-(M + 1)), .int .u8 0, .slice (some ⟨B, 0, none⟩) (n + 8) (n + 8)][j]? = some u → ((wr.alloc (.cells #[.bool false, .int .i64 (-(M + 1)), .int .u8 0, .slice (some ⟨B, 0, none⟩) (n + 8) (n + 8)] 59)).drew).cell? ((⟨wr.heap.size, 0, none⟩ : Addr).add j) = some u) := fun j u hu => World.news_of_block (heap_new wr (.cells #[.bool false, .int .i64 (-(M + 1)), .int .u8 0, .slice (some ⟨B, 0, none⟩) (n + 8) (n + 8)] 59)) j u hu
      have H1c : Hid (∀ u ∈ [Value.bool false, .int .i64 (-(M + 1)), .int .u8 0, .slice (some ⟨B, 0, none⟩) (n + 8) (n + 8)], u.oneCell' = true) := fun x hx => by simp at hx; rcases hx with rfl | rfl | rfl | rfl <;> rfl
      have HEND : Hid (∀ w4 g' cap', w4.ownsRow base 59 4 (.slice (some ⟨g', 0, none⟩) (len + 1) cap') (len + 1) (xs ++ [.bool false, .int .i64 (-(M + 1)), .int .u8 0, .slice (some ⟨B, 0, none⟩) (n + 8) (n + 8)]) → ((wr.alloc (.cells #[.bool false, .int .i64 (-(M + 1)), .int .u8 0, .slice (some ⟨B, 0, none⟩) (n + 8) (n + 8)] 59)).drew).grownBy w4 vl.ownBlock → (vl.ownBlock = some g' ∨ g' = ((wr.alloc (.cells #[.bool false, .int .i64 (-(M + 1)), .int .u8 0, .slice (some ⟨B, 0, none⟩) (n + 8) (n + 8)] 59)).drew).heap.size) →
          InsRaw (w4.setCell ⟨g, 5, none⟩ (.slice (some ⟨g', 0, none⟩) (len + 1) cap')) B (n + 8) (fun _ => ⟨false, -(M + 1), 0⟩) ∧ (w4.setCell ⟨g, 5, none⟩ (.slice (some ⟨g', 0, none⟩) (len + 1) cap')).cell? ⟨g, 1, none⟩ = some (.int .i64 (M + 1)) ∧
          ∃ g'' cap'', (w4.setCell ⟨g, 5, none⟩ (.slice (some ⟨g', 0, none⟩) (len + 1) cap')).cell? ⟨g, 5, none⟩ = some (.slice (some ⟨g'', 0, none⟩) (len + 1) cap'') ∧ (w4.setCell ⟨g, 5, none⟩ (.slice (some ⟨g', 0, none⟩) (len + 1) cap')).ownsRow base 59 4 (.slice (some ⟨g'', 0, none⟩) (len + 1) cap'') (len + 1) (xs ++ [.bool false, .int .i64 (-(M + 1)), .int .u8 0, .slice (some ⟨B, 0, none⟩) (n + 8) (n + 8)]) ∧ (vl.ownBlock = some g'' ∨ w.heap.size ≤ g'') ∧ Kept (fun k => k = g ∨ k = B ∨ vl.ownBlock = some k) w (w4.setCell ⟨g, 5, none⟩ (.slice (some ⟨g', 0, none⟩) (len + 1) cap')) ∧ (∀ j, j ≠ 1 → j ≠ 5 → (w4.setCell ⟨g, 5, none⟩ (.slice (some ⟨g', 0, none⟩) (len + 1) cap')).cell? ⟨g, j, none⟩ = w.cell? ⟨g, j, none⟩) ∧ (∀ j, (w4.setCell ⟨g, 5, none⟩ (.slice (some ⟨g', 0, none⟩) (len + 1) cap')).frozen? ⟨g, j, none⟩ = w.frozen? ⟨g, j, none⟩)) := fun w4 g' cap' q1 q2 q3 => by
        have kg : Kept (fun k => vl.ownBlock = some k) wr w4 := ((Kept.refl _ wr).alloc _).trans ⟨q2.os, q2.tape, q2.output, q2.size, fun k hk2 hS => q2.block k hk2 (fun e => hS e.symm)⟩
        have hgg : g' ≠ g := fun e => by
          rcases q3 with y | y
          · exact hne (e ▸ y)
          · have y' : g' = (wr.alloc (.cells #[.bool false, .int .i64 (-(M + 1)), .int .u8 0, .slice (some ⟨B, 0, none⟩) (n + 8) (n + 8)] 59)).heap.size := y
            rw [World.size_alloc] at y'
            omega
        have cw : ∀ j, j ≠ 5 → (w4.setCell ⟨g, 5, none⟩ (.slice (some ⟨g', 0, none⟩) (len + 1) cap')).cell? ⟨g, j, none⟩ = W0.cell? ⟨g, j, none⟩ := fun j hj5 => by
          rw [World.cell?_setCell_other _ _ _ _ (by intro x; exact hj5 (congrArg Addr.off x).symm), kg.cell zg hne, hk.cell (b := g) (by omega) (fun x => hBg x.symm)]
        refine ⟨?_, (cw 1 (by omega)).trans cg1, g', cap', World.cell?_setCell_same _ _ _ (hec w4 q2), ?_, ?_, ?_, fun j j1 j5 => (cw j j5).trans (cgo j j1), fun j => ?_⟩
        · have r1 : InsRaw w4 B (n + 8) (fun i => if i < j then ⟨false, -(M + 1), 0⟩ else lentIn ins n i) := Raw.kept hr kg zB hvB
          have r2 := Raw.other r1 (b := g) (j := 5) (fun x => hBg x.symm) (.slice (some ⟨g', 0, none⟩) (len + 1) cap')
          intro k hk3
          have e := r2 k hk3
          dsimp only at e
          have e2 : (if k / 3 < j then (⟨false, -(M + 1), 0⟩ : In) else lentIn ins n (k / 3)) = ⟨false, -(M + 1), 0⟩ := if_pos (by omega)
          rw [e2] at e
          exact e
        · exact ownsRow_same q1 (fun k hk3 => Below.heap_setCell _ _ _ _ (by
            have e : g' = k := Option.some.inj hk3
            show k ≠ g
            omega))
        · rcases q3 with y | y
          · exact Or.inl y
          · have y' : g' = (wr.alloc (.cells #[.bool false, .int .i64 (-(M + 1)), .int .u8 0, .slice (some ⟨B, 0, none⟩) (n + 8) (n + 8)] 59)).heap.size := y
            rw [World.size_alloc] at y'
            exact Or.inr (by omega)
        · exact ((k1.wide (T := fun k => k = g ∨ k = B ∨ vl.ownBlock = some k) (fun k hk3 => hk3.elim Or.inl (fun x => Or.inr (Or.inl x)))).trans (kg.wide (fun k hk3 => Or.inr (Or.inr hk3)))).setCell (b := g) (Or.inl (Or.inl rfl)) _
        · rw [World.frozen?_setCell, kg.frozen zg hne, hk.frozen (b := g) (by omega) (fun x => hBg x.symm), cgf j]
      have HO : Hid _ := hownX
      have HBs : Hid (∀ o, base ≤ ((wr.alloc o).drew).heap.size) := fun o => by show base ≤ (wr.alloc o).heap.size; rw [World.size_alloc]; omega
      clear hownX hownr
      go_wp2
      go_region_law (refine step_append_lies _ rfl (.tmp 65) (.tmp 69) 29 rfl base 59 i z 4 48 Tryz.underlying29 hi hz hsize hbytes hzs (by decide) vl len xs rfl (HO.out _) ⟨wr.heap.size, 0, none⟩ 1 1 [.bool false, .int .i64 (-(M + 1)), .int .u8 0, .slice (some ⟨B, 0, none⟩) (n + 8) (n + 8)] rfl rfl HN.out H1c.out (by decide) h63 hby (HBs.out _) _ rfl ?_; intro g' cap' w4 hown4 hgrow hat hlt)
      all_goals
        go_wp2
        go_ret
        exact ⟨rfl, HEND.out _ _ _ hown4 hgrow hat⟩

end Go.Proofs.YtikdbpphbdbdnaaGreat
