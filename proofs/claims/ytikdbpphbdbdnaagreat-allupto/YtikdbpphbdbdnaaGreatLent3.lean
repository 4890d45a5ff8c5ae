/- Lists that came out: keep. -/
import Derived.Test.YtikdbpphbdbdnaaGreatLent2
import Derived.Laws.AppendOwnNone
namespace Go.Proofs.YtikdbpphbdbdnaaGreat
open Go.RowKit
set_option linter.unusedVariables false

theorem cycles_info : (Tryz.prog.info? 52).map (fun i => (i.size, i.bytes, i.zero.map (·.cells.size))) = some (1, 24, some 1) := by kernel_rfl
theorem cycle_info : (Tryz.prog.info? 54).map (fun i => (i.size, i.bytes, i.zero.map (·.cells.size))) = some (4, 24, some 4) := by kernel_rfl

/-- The cells of some cycles, one behind the other. -/
def cysCells (c : Nat → Cy) (n : Nat) : List Value := (List.range (n * 4)).map fun k => cyCell (c (k / 4)) (k % 4)

theorem cysCells_len (c : Nat → Cy) (n : Nat) : (cysCells c n).length = n * 4 := by unfold cysCells; simp

theorem cysCells_one (c : Nat → Cy) (n : Nat) : ∀ v ∈ cysCells c n, v.oneCell' = true := fun v hv => by
  unfold cysCells at hv
  obtain ⟨k, _, rfl⟩ := List.mem_map.1 hv
  have : k % 4 = 0 ∨ k % 4 = 1 ∨ k % 4 = 2 ∨ k % 4 = 3 := by omega
  rcases this with h | h | h | h <;> rw [h] <;> rfl

theorem cysCells_get (c : Nat → Cy) (n j : Nat) (hj : j < n * 4) : (cysCells c n)[j]? = some (cyCell (c (j / 4)) (j % 4)) := by
  unfold cysCells
  rw [List.getElem?_map, List.getElem?_range hj]
  rfl

theorem cysCells_at {w : World} {b n : Nat} {c : Nat → Cy} (h : CysAt w b n c) : ∀ j v, (cysCells c n)[j]? = some v → w.cell? ((⟨b, 0, none⟩ : Addr).add j) = some v := fun j v hv => by
  have hj : j < n * 4 := by have := (List.getElem?_eq_some_iff.1 hv).1; rw [cysCells_len] at this; exact this
  rw [cysCells_get c n j hj] at hv
  have ha : (⟨b, 0, none⟩ : Addr).add j = ⟨b, j, none⟩ := by unfold Addr.add; split <;> simp_all
  rw [ha, ← hv]
  exact (h j hj).1

/-- What keep leaves. -/
def KeepPost (g base c n len : Nat) (vw vr : Value) (ws rs : List Value) (cy : Nat → Cy) (w w' : World) : Prop :=
  ∃ gw cw gr cr v, w'.cell? ⟨g, 2, none⟩ = some (.slice (some ⟨gw, 0, none⟩) (len + 1) cw) ∧ w'.cell? ⟨g, 3, none⟩ = some (.slice (some ⟨gr, 0, none⟩) (len + 1) cr) ∧
    w'.ownsRow base 52 1 (.slice (some ⟨gw, 0, none⟩) (len + 1) cw) (len + 1) (ws ++ [.slice (some ⟨c, 0, none⟩) n n]) ∧ w'.ownsRow base 52 1 (.slice (some ⟨gr, 0, none⟩) (len + 1) cr) (len + 1) (rs ++ [v]) ∧ w'.ownsRow w.heap.size 54 4 v n (cysCells cy n) ∧
    (vw.ownBlock = some gw ∨ w.heap.size ≤ gw) ∧ (vr.ownBlock = some gr ∨ w.heap.size ≤ gr) ∧ gw ≠ gr ∧ (∀ k, v.ownBlock = some k → k ≠ gw ∧ k ≠ gr) ∧
    Kept (fun k => k = g ∨ vw.ownBlock = some k ∨ vr.ownBlock = some k) w w' ∧ (∀ j, j ≠ 2 → j ≠ 3 → w'.cell? ⟨g, j, none⟩ = w.cell? ⟨g, j, none⟩) ∧ (∀ j, w'.frozen? ⟨g, j, none⟩ = w.frozen? ⟨g, j, none⟩)

/-- Its end: the second row was appended to, and the book written. -/
theorem keep_end {g base c n len : Nat} {vw vr : Value} {ws rs : List Value} {cy : Nat → Cy} {w W1 w5 w6 : World} {gw cw gr cr : Nat} {v : Value} (hgz : g < base) (hbz : base ≤ w.heap.size) (hor : w.ownsRow base 52 1 vr len rs)
    (hneW : vw.ownBlock ≠ some g) (hvr : ∀ k, vw.ownBlock = some k → vr.ownBlock ≠ some k)
    (c2 : W1.cell? ⟨g, 2, none⟩ = some (.slice (some ⟨gw, 0, none⟩) (len + 1) cw)) (k1 : Kept (fun k => k = g ∨ vw.ownBlock = some k) w W1) (h1 : W1.ownsRow base 52 1 (.slice (some ⟨gw, 0, none⟩) (len + 1) cw) (len + 1) (ws ++ [.slice (some ⟨c, 0, none⟩) n n])) (hat1 : vw.ownBlock = some gw ∨ w.heap.size ≤ gw)
    (co1 : ∀ j, j ≠ 2 → W1.cell? ⟨g, j, none⟩ = w.cell? ⟨g, j, none⟩) (fo1 : ∀ j, W1.frozen? ⟨g, j, none⟩ = w.frozen? ⟨g, j, none⟩)
    (k5 : Kept (fun _ => False) W1 w5) (hv : w5.ownsRow w.heap.size 54 4 v n (cysCells cy n)) (hvb : ∀ k, v.ownBlock = some k → W1.heap.size ≤ k)
    (h6 : w6.ownsRow base 52 1 (.slice (some ⟨gr, 0, none⟩) (len + 1) cr) (len + 1) (rs ++ [v])) (k6 : Kept (fun k => vr.ownBlock = some k) w5 w6) (hat6 : vr.ownBlock = some gr ∨ w5.heap.size ≤ gr) (c6 : ∃ u, w6.cell? ⟨g, 3, none⟩ = some u) :
    KeepPost g base c n len vw vr ws rs cy w (w6.setCell ⟨g, 3, none⟩ (.slice (some ⟨gr, 0, none⟩) (len + 1) cr)) := by
  have hg1 := lt_of_cell c2
  have hg5 : g < w5.heap.size := Nat.lt_of_lt_of_le hg1 k5.size
  have hneR : vr.ownBlock ≠ some g := fun e => by have := (hor.lt g e).1; omega
  have hgw1 : gw < W1.heap.size := (h1.lt gw rfl).2
  have hgw0 : base ≤ gw := (h1.lt gw rfl).1
  have hwr : vr.ownBlock ≠ some gw := fun e => by
    rcases hat1 with x | x
    · exact hvr gw x e
    · have := (hor.lt gw e).2; omega
  have hne : gw ≠ gr := fun e => by
    rcases hat6 with x | x
    · exact hwr (e ▸ x)
    · have := k5.size; omega
  have cg : ∀ j, j ≠ 3 → (w6.setCell ⟨g, 3, none⟩ (.slice (some ⟨gr, 0, none⟩) (len + 1) cr)).cell? ⟨g, j, none⟩ = W1.cell? ⟨g, j, none⟩ := fun j hj => by
    rw [World.cell?_setCell_other _ _ _ _ (by intro x; exact hj (congrArg Addr.off x).symm), k6.cell hg5 hneR, k5.cell hg1 (fun x => x)]
  have hgr : base ≤ gr := (h6.lt gr rfl).1
  have hblk : ∀ k, k ≠ g → vr.ownBlock ≠ some k → k < W1.heap.size → (w6.setCell ⟨g, 3, none⟩ (.slice (some ⟨gr, 0, none⟩) (len + 1) cr)).heap[k]? = W1.heap[k]? := fun k q1 q2 q3 =>
    (Below.heap_setCell _ _ _ _ q1).trans ((k6.block k (Nat.lt_of_lt_of_le q3 k5.size) q2).trans (k5.block k q3 (fun x => x)))
  refine ⟨gw, cw, gr, cr, v, (cg 2 (by omega)).trans c2, ?_, ?_, ?_, ?_, hat1, ?_, hne, fun k hk => ⟨?_, ?_⟩, ?_, fun j j2 j3 => (cg j j3).trans (co1 j j2), fun j => ?_⟩
  · obtain ⟨u, hu⟩ := c6
    exact World.cell?_setCell_same _ _ _ hu
  · exact ownsRow_same h1 (fun k hk => by
      have e : gw = k := Option.some.inj hk
      exact hblk k (by omega) (e ▸ hwr) (by omega))
  · exact ownsRow_same h6 (fun k hk => Below.heap_setCell _ _ _ _ (by
      have e : gr = k := Option.some.inj hk
      show k ≠ g
      omega))
  · refine ownsRow_same hv (fun k hk => ?_)
    have hb := hvb k hk
    have hl := (hv.lt k hk).2
    have hk1 := k1.size
    refine (Below.heap_setCell _ _ _ _ (by show k ≠ g; omega)).trans (k6.block k hl (fun e => ?_))
    have := (hor.lt k e).2
    omega
  · rcases hat6 with x | x
    · exact Or.inl x
    · exact Or.inr (Nat.le_trans k1.size (Nat.le_trans k5.size x))
  · have hb := hvb k hk; omega
  · rcases hat6 with x | x
    · intro e
      have hb := hvb k hk
      have := (hor.lt gr x).2
      have := k1.size
      omega
    · have := (hv.lt k hk).2; omega
  · exact ((k1.wide (T := fun k => k = g ∨ vw.ownBlock = some k ∨ vr.ownBlock = some k) (fun k hk => hk.elim Or.inl (fun x => Or.inr (Or.inl x)))).trans ((k5.wide (fun _ x => x.elim)).trans (k6.wide (fun k hk => Or.inr (Or.inr hk))))).setCell (b := g) (Or.inl (Or.inl rfl)) _
  · rw [World.frozen?_setCell, k6.frozen hg5 hneR, k5.frozen hg1 (fun x => x), fo1 j]

theorem grown_kept {w w' : World} {row : Option Nat} (h : w.grownBy w' row) : Kept (fun k => row = some k) w w' := ⟨h.os, h.tape, h.output, h.size, fun k hk hS => h.block k hk (fun e => hS e.symm)⟩

theorem grown_drew {w w' : World} {row : Option Nat} (h : w.drew.grownBy w' row) : Kept (fun k => row = some k) w w' := ⟨h.os, h.tape, h.output, h.size, fun k hk hS => h.block k hk (fun e => hS e.symm)⟩

set_option maxRecDepth 100000 in
set_option maxHeartbeats 2000000 in
theorem keep_any (g base c n len : Nat) (vw vr : Value) (ws rs : List Value) (cy : Nat → Cy) (w : World) (hn : n ≤ 1048576)
    (hc : CysAt w c n cy) (hcz : c < w.heap.size) (hgz : g < base) (hbz : base ≤ w.heap.size)
    (c2 : w.cell? ⟨g, 2, none⟩ = some vw) (f2 : w.frozen? ⟨g, 2, none⟩ = false) (c3 : w.cell? ⟨g, 3, none⟩ = some vr) (f3 : w.frozen? ⟨g, 3, none⟩ = false)
    (how : w.ownsRow base 52 1 vw len ws) (hor : w.ownsRow base 52 1 vr len rs) (hvc : vw.ownBlock ≠ some c) (hrc : vr.ownBlock ≠ some c) (hvr : ∀ k, vw.ownBlock = some k → vr.ownBlock ≠ some k) (h63 : len + 1 ≤ maxLen) (hby : (len + 1) * 24 ≤ 140737488355328) :
    Calls Tryz.prog 35 #[.pointer (some ⟨g, 0, none⟩), .slice (some ⟨c, 0, none⟩) n n] w fun e w' => e = .returned (.tuple #[]) ∧
      KeepPost g base c n len vw vr ws rs cy w w' := by
  have hg := lt_of_cell c2
  obtain ⟨i, z, hi, hz, hsize, hbytes, hzs⟩ := info_of cycles_info
  obtain ⟨i4, z4, hi4, hz4, hsize4, hbytes4, hzs4⟩ := info_of cycle_info
  have hneW : vw.ownBlock ≠ some g := fun e => by have := (how.lt g e).1; omega
  have hneR : vr.ownBlock ≠ some g := fun e => by have := (hor.lt g e).1; omega
  have hec1 : ∀ w4, (w.alloc (.cells #[.slice (some ⟨c, 0, none⟩) n n] 52)).grownBy w4 vw.ownBlock → w4.cell? ⟨g, 2, none⟩ = some vw := fun w4 hgr => (World.cell?_of_block (w := w) (a := ⟨g, 2, none⟩) ((hgr.block _ (by rw [World.size_alloc]; omega) (fun x => hneW x.symm)).trans (Below.heap_alloc w _ _ hg))).trans c2
  have hef1 : ∀ w4, (w.alloc (.cells #[.slice (some ⟨c, 0, none⟩) n n] 52)).grownBy w4 vw.ownBlock → w4.frozen? ⟨g, 2, none⟩ = false := fun w4 hgr => (World.frozen?_of_block (w := w) (a := ⟨g, 2, none⟩) ((hgr.block _ (by rw [World.size_alloc]; omega) (fun x => hneW x.symm)).trans (Below.heap_alloc w _ _ hg))).trans f2
  have hec2 : ∀ w4, (w.alloc (.cells #[.slice (some ⟨c, 0, none⟩) n n] 52)).grownBy w4 vw.ownBlock → w4.cell? ⟨g, 3, none⟩ = some vr := fun w4 hgr => (World.cell?_of_block (w := w) (a := ⟨g, 3, none⟩) ((hgr.block _ (by rw [World.size_alloc]; omega) (fun x => hneW x.symm)).trans (Below.heap_alloc w _ _ hg))).trans c3
  have HO1 : Hid ((w.alloc (.cells #[.slice (some ⟨c, 0, none⟩) n n] 52)).ownsRow base 52 1 vw len ws) := how.alloc _
  have HN1 : Hid (∀ j u, [Value.slice (some ⟨c, 0, none⟩) n n][j]? = some u → (w.alloc (.cells #[.slice (some ⟨c, 0, none⟩) n n] 52)).cell? ((⟨w.heap.size, 0, none⟩ : Addr).add j) = some u) := fun j u hu => World.news_of_block (heap_new w (.cells #[.slice (some ⟨c, 0, none⟩) n n] 52)) j u hu
  have HC1 : Hid (∀ u ∈ [Value.slice (some ⟨c, 0, none⟩) n n], u.oneCell' = true) := fun x hx => by simp at hx; subst hx; rfl
  have HB1 : Hid (base ≤ (w.alloc (.cells #[.slice (some ⟨c, 0, none⟩) n n] 52)).heap.size) := by rw [World.size_alloc]; exact Nat.le_succ_of_le hbz
  go_enter Tryz.func35, Tryz.ntmps35
  go_wp2_with (first | (at_builtin; refine wpList_append_lies _ rfl (.tmp 8) (.tmp 10) 27 rfl base 52 i z 1 24 Tryz.underlying27 hi hz hsize hbytes hzs (by decide) vw len ws rfl HO1.out ⟨w.heap.size, 0, none⟩ 1 1 [.slice (some ⟨c, 0, none⟩) n n] rfl rfl HN1.out HC1.out (by decide) h63 hby HB1.out _ rfl ?_; intro gw cw w4 hown1 hgrow1 hat1 hlt1))
  obtain ⟨W1, hW1⟩ : ∃ W1, W1 = w4.setCell ⟨g, 2, none⟩ (.slice (some ⟨gw, 0, none⟩) (len + 1) cw) := ⟨_, rfl⟩
  have kg4 : Kept (fun k => vw.ownBlock = some k) w w4 := ((Kept.refl _ w).alloc _).trans (grown_kept hgrow1)
  have hat1' : vw.ownBlock = some gw ∨ w.heap.size ≤ gw := by
    rcases hat1 with x | x
    · exact Or.inl x
    · exact Or.inr (by rw [x, World.size_alloc]; omega)
  have hgw0 : base ≤ gw := (hown1.lt gw rfl).1
  have k1 : Kept (fun k => k = g ∨ vw.ownBlock = some k) w W1 := by rw [hW1]; exact (kg4.wide (T := fun k => k = g ∨ vw.ownBlock = some k) (fun k hk => Or.inr hk)).setCell (b := g) (Or.inl (Or.inl rfl)) _
  have d2 : W1.cell? ⟨g, 2, none⟩ = some (.slice (some ⟨gw, 0, none⟩) (len + 1) cw) := by rw [hW1]; exact World.cell?_setCell_same _ _ _ (hec1 w4 hgrow1)
  have co1 : ∀ j, j ≠ 2 → W1.cell? ⟨g, j, none⟩ = w.cell? ⟨g, j, none⟩ := fun j hj => by
    rw [hW1, World.cell?_setCell_other _ _ _ _ (by intro x; exact hj (congrArg Addr.off x).symm), kg4.cell hg hneW]
  have fo1 : ∀ j, W1.frozen? ⟨g, j, none⟩ = w.frozen? ⟨g, j, none⟩ := fun j => by rw [hW1, World.frozen?_setCell, kg4.frozen hg hneW]
  have ho1 : W1.ownsRow base 52 1 (.slice (some ⟨gw, 0, none⟩) (len + 1) cw) (len + 1) (ws ++ [.slice (some ⟨c, 0, none⟩) n n]) := by
    rw [hW1]
    exact ownsRow_same hown1 (fun k hk => Below.heap_setCell _ _ _ _ (by have e : gw = k := Option.some.inj hk; show k ≠ g; omega))
  have hcg : c ≠ g ∨ n = 0 := by
    by_cases e : c = g
    · right
      by_cases h0 : n = 0
      · exact h0
      · have := (hc 2 (by omega)).1
        rw [e] at this
        rw [this] at c2
        simp at c2
        subst c2
        rcases how.2 with ⟨x, _⟩ | ⟨_, _, _, x, _⟩ <;> cases x
    · exact Or.inl e
  have hc1 : CysAt W1 c n cy := by
    rcases hcg with x | x
    · exact Raw.kept hc k1 hcz (fun y => by rcases y with y | y; exact x y; exact hvc y)
    · subst x
      intro k hk
      omega
  have hor1 : W1.ownsRow base 52 1 vr len rs := ownsRow_same hor (fun k hk => k1.block k (hor.lt k hk).2 (fun x => by rcases x with x | x; exact hneR (x ▸ hk); exact hvr k x hk))
  have e3 : W1.cell? ⟨g, 3, none⟩ = some vr := (co1 3 (by omega)).trans c3
  have ef3 : W1.frozen? ⟨g, 3, none⟩ = false := (fo1 3).trans f3
  have hg1 := lt_of_cell d2
  rw [← hW1]
  clear hW1 hec1 hef1 hec2 HO1 HN1 HC1 HB1 hgrow1 hat1 hlt1 hown1 kg4
  by_cases hn0 : n = 0
  · subst hn0
    have HE : Hid (∀ w6, ((W1.alloc (.cells #[.slice none 0 0] 52)).drew).grownBy w6 vr.ownBlock → w6.cell? ⟨g, 3, none⟩ = some vr ∧ w6.frozen? ⟨g, 3, none⟩ = false) := fun w6 h2 => by
      have kk : Kept (fun k => vr.ownBlock = some k) W1 w6 := ((Kept.refl _ W1).alloc _).trans (grown_drew h2)
      exact ⟨(kk.cell hg1 hneR 3).trans e3, (kk.frozen hg1 hneR 3).trans ef3⟩
    have HOR : Hid (((W1.alloc (.cells #[.slice none 0 0] 52)).drew).ownsRow base 52 1 vr len rs) := hor1.alloc _
    have HBS : Hid (base ≤ ((W1.alloc (.cells #[.slice none 0 0] 52)).drew).heap.size) := by show base ≤ (W1.alloc _).heap.size; rw [World.size_alloc]; have := k1.size; omega
    have HN2 : Hid (∀ j u, [Value.slice none 0 0][j]? = some u → ((W1.alloc (.cells #[.slice none 0 0] 52)).drew).cell? ((⟨W1.heap.size, 0, none⟩ : Addr).add j) = some u) := fun j u hu => World.news_of_block (heap_new W1 (.cells #[.slice none 0 0] 52)) j u hu
    have HEND : Hid (∀ w6 gr cr, w6.ownsRow base 52 1 (.slice (some ⟨gr, 0, none⟩) (len + 1) cr) (len + 1) (rs ++ [.slice none 0 0]) → ((W1.alloc (.cells #[.slice none 0 0] 52)).drew).grownBy w6 vr.ownBlock → (vr.ownBlock = some gr ∨ gr = ((W1.alloc (.cells #[.slice none 0 0] 52)).drew).heap.size) →
        KeepPost g base c 0 len vw vr ws rs cy w (w6.setCell ⟨g, 3, none⟩ (.slice (some ⟨gr, 0, none⟩) (len + 1) cr))) := fun w6 gr cr q4 q5 q6 => by
      refine keep_end hgz hbz hor hneW hvr d2 k1 ho1 hat1' co1 fo1 (Kept.refl _ W1) (World.ownsRow_nil _ _ _ _) (fun k hk => by cases hk) q4 (((Kept.refl _ W1).alloc _).trans (grown_drew q5)) ?_ ⟨vr, (HE.out _ q5).1⟩
      rcases q6 with x | x
      · exact Or.inl x
      · have x' : gr = (W1.alloc (.cells #[.slice none 0 0] 52)).heap.size := x
        exact Or.inr (by rw [x', World.size_alloc]; omega)
    have H1c : Hid (∀ v : Value, v.oneCell' = true → ∀ u ∈ [v], u.oneCell' = true) := fun v hv u hu => by simp at hu; subst hu; exact hv
    clear hor1 ho1 co1 fo1 hc1 hc how hor c2 f2 c3 f3 d2
    go_wp2_with fail
    go_region_law (first | (refine step_append_lies _ rfl (.tmp 18) (.tmp 21) 27 rfl base 52 i z 1 24 Tryz.underlying27 hi hz hsize hbytes hzs (by decide) vr len rs rfl HOR.out ⟨W1.heap.size, 0, none⟩ 1 1 [.slice none 0 0] rfl rfl HN2.out (H1c.out _ rfl) (by decide) h63 hby HBS.out _ rfl ?_; intro gr cr w6 hown3 hgrow3 hat3 hlt3; have e6 := HE.out _ hgrow3; obtain ⟨e6c, e6f⟩ := e6))
    all_goals
      go_wp2
      (first | go_end0 | refine bodyPost_ret (results_none rfl _ _ _) rfl ?_)
      exact ⟨rfl, HEND.out _ _ _ hown3 hgrow3 hat3⟩
  · have HA : Hid (∀ w5, W1.drew.grownBy w5 none → w5.cell? ⟨g, 3, none⟩ = some vr ∧ g < w5.heap.size) := fun w5 h => ⟨((grown_drew h).cell hg1 (fun x => by cases x) 3).trans e3, Nat.lt_of_lt_of_le hg1 h.size⟩
    have HE : Hid (∀ w5 o w6, W1.drew.grownBy w5 none → (w5.alloc o).grownBy w6 vr.ownBlock → w6.cell? ⟨g, 3, none⟩ = some vr ∧ w6.frozen? ⟨g, 3, none⟩ = false) := fun w5 o w6 h h2 => by
      have kk : Kept (fun k => vr.ownBlock = some k) W1 w6 := (((grown_drew h).wide (T := fun k => vr.ownBlock = some k) (fun k x => by cases x)).alloc o).trans (grown_kept h2)
      exact ⟨(kk.cell hg1 hneR 3).trans e3, (kk.frozen hg1 hneR 3).trans ef3⟩
    have HOR : Hid (∀ w5, W1.drew.grownBy w5 none → ∀ o, (w5.alloc o).ownsRow base 52 1 vr len rs) := fun w5 h o => (ownsRow_same hor1 (fun k hk => (grown_drew h).block k (hor1.lt k hk).2 (fun x => by cases x))).alloc o
    have HBS : Hid (∀ w5, W1.drew.grownBy w5 none → ∀ o, base ≤ (w5.alloc o).heap.size) := fun w5 h o => by rw [World.size_alloc]; have h1 := h.size; have h2 : W1.heap.size ≤ w5.heap.size := h1; have := k1.size; omega
    have HNc : Hid (∀ j u, (cysCells cy n)[j]? = some u → W1.drew.cell? ((⟨c, 0, none⟩ : Addr).add j) = some u) := fun j u hu => cysCells_at hc1 j u hu
    have HN2 : Hid (∀ (w5 : World) (v : Value) j u, [v][j]? = some u → (w5.alloc (.cells #[v] 52)).cell? ((⟨w5.heap.size, 0, none⟩ : Addr).add j) = some u) := fun w5 v j u hu => World.news_of_block (heap_new w5 (.cells #[v] 52)) j u hu
    have hbw : w.heap.size ≤ W1.drew.heap.size := k1.size
    have HEND : Hid (∀ w5 w6 b cap2 gr cr, w5.ownsRow w.heap.size 54 4 (.slice (some ⟨b, 0, none⟩) n cap2) n (cysCells cy n) → W1.drew.grownBy w5 none → (none = some b ∨ b = W1.drew.heap.size) → w6.ownsRow base 52 1 (.slice (some ⟨gr, 0, none⟩) (len + 1) cr) (len + 1) (rs ++ [.slice (some ⟨b, 0, none⟩) n cap2]) → (w5.alloc (.cells #[.slice (some ⟨b, 0, none⟩) n cap2] 52)).grownBy w6 vr.ownBlock → (vr.ownBlock = some gr ∨ gr = (w5.alloc (.cells #[.slice (some ⟨b, 0, none⟩) n cap2] 52)).heap.size) →
        KeepPost g base c n len vw vr ws rs cy w (w6.setCell ⟨g, 3, none⟩ (.slice (some ⟨gr, 0, none⟩) (len + 1) cr))) := fun w5 w6 b cap2 gr cr q1 q2 q3 q4 q5 q6 => by
      have k5 : Kept (fun _ => False) W1 w5 := (grown_drew q2).wide (fun k x => by cases x)
      refine keep_end hgz hbz hor hneW hvr d2 k1 ho1 hat1' co1 fo1 k5 q1 (fun k hk => ?_) q4 (((Kept.refl _ w5).alloc _).trans (grown_kept q5)) ?_ ⟨vr, (HE.out _ _ _ q2 q5).1⟩
      · rcases q3 with x | x
        · cases x
        · have e : b = k := Option.some.inj hk
          have x' : b = W1.heap.size := x
          omega
      · rcases q6 with x | x
        · exact Or.inl x
        · exact Or.inr (by rw [x, World.size_alloc]; omega)
    have H1c : Hid (∀ v : Value, v.oneCell' = true → ∀ u ∈ [v], u.oneCell' = true) := fun v hv u hu => by simp at hu; subst hu; exact hv
    have hn24 : (0 + n) * 24 ≤ 140737488355328 := by omega
    have hnm : 0 + n ≤ maxLen := by unfold maxLen; omega
    have hnp : 0 < n := by omega
    have HC4 : Hid _ := cysCells_one cy n
    have HL4 : Hid _ := cysCells_len cy n
    clear hor1 ho1 co1 fo1 hc1 hc how hor c2 f2 c3 f3 d2
    go_wp2_with fail
    go_region_law (first | (refine step_append_lies _ rfl (.const (.slice none 0 0)) (.tmp 19) 52 rfl w.heap.size 54 i4 z4 4 24 Tryz.underlying52 hi4 hz4 hsize4 hbytes4 hzs4 (by decide) (.slice none 0 0) 0 [] rfl (World.ownsRow_nil _ _ _ _) ⟨c, 0, none⟩ n n (cysCells cy n) rfl HL4.out HNc.out HC4.out hnp hnm hn24 hbw _ rfl ?_; intro b cap2 w5 hown2 hgrow2 hat2 hlt2; simp only [Nat.zero_add, List.nil_append] at hown2 ⊢; have e5 := HA.out _ hgrow2; obtain ⟨e5c, e5z⟩ := e5) | (refine step_append_lies _ rfl (.tmp 18) (.tmp 21) 27 rfl base 52 i z 1 24 Tryz.underlying27 hi hz hsize hbytes hzs (by decide) vr len rs rfl (HOR.out _ hgrow2 _) ⟨w5.heap.size, 0, none⟩ 1 1 [.slice (some ⟨b, 0, none⟩) n cap2] rfl rfl (HN2.out _ _) (H1c.out _ rfl) (by decide) h63 hby (HBS.out _ hgrow2 _) _ rfl ?_; intro gr cr w6 hown3 hgrow3 hat3 hlt3; have e6 := HE.out _ _ _ hgrow2 hgrow3; obtain ⟨e6c, e6f⟩ := e6))
    all_goals
      go_wp2
      (first | go_end0 | refine bodyPost_ret (results_none rfl _ _ _) rfl ?_)
      exact ⟨rfl, HEND.out _ _ _ _ _ _ hown2 hgrow2 hat2 hown3 hgrow3 hat3⟩

end Go.Proofs.YtikdbpphbdbdnaaGreat
