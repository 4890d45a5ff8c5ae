/- New of both boards; the list of boards grows. -/
import Derived.Test.YtommhbidkoeifaaGreatTells
import Derived.Deep.AppendLies
namespace Go.Proofs.YtommhbidkoeifaaGreat
open Go.RowKit
set_option linter.unusedVariables false

theorem ownsRow_same {w w' : World} {base : Nat} {e : TypeId} {size : Nat} {v : Value} {n : Nat} {xs : List Value} (h : w.ownsRow base e size v n xs) (hk : ∀ k, v.ownBlock = some k → w'.heap[k]? = w.heap[k]?) : w'.ownsRow base e size v n xs := by
  refine ⟨h.1, ?_⟩
  rcases h.2 with h2 | ⟨g, cap, cur, hv, hb, hg, h3⟩
  · exact Or.inl h2
  · exact Or.inr ⟨g, cap, cur, hv, hb, by rw [hk g (by rw [hv]; rfl)]; exact hg, h3⟩

theorem pair_info : (Tryz.prog.info? 47).map (fun i => (i.size, i.bytes, i.zero.map (·.cells.size))) = some (2, 16, some 2) := by kernel_rfl

theorem pair_info' : ∃ i z, Tryz.prog.info? 47 = some i ∧ i.zero = some z ∧ i.size = 2 ∧ i.bytes = 16 ∧ z.cells.size = 2 := by
  have h := pair_info
  cases hi : Tryz.prog.info? 47 with
  | none => rw [hi] at h; cases h
  | some i =>
    rw [hi] at h
    simp only [Option.map_some, Option.some.injEq, Prod.mk.injEq] at h
    obtain ⟨h1, h2, h3⟩ := h
    cases hz : i.zero with
    | none => rw [hz] at h3; cases h3
    | some z =>
      rw [hz] at h3
      simp only [Option.map_some, Option.some.injEq] at h3
      exact ⟨i, z, rfl, hz, h1, h2, h3⟩

set_option maxRecDepth 100000 in
set_option maxHeartbeats 1000000 in
theorem made_no {B : PB} (hB : PBok B) (a b : ByteArray) (g : Nat) (w : World) (ha : a.size ≤ maxLen) (hb : b.size ≤ maxLen) (hn : ¬ (a.size = 64 ∧ b.size = 64)) :
    Calls Tryz.prog 11 #[.pointer (some ⟨g, 0, none⟩), .string a, .string b] w fun e w' => e = .returned (.bool true) ∧ Below w.heap.size w w' := by
  have hcall : ∀ W : World, Calls Tryz.prog 26 #[.string a, .string b] W fun e w' => e = .returned (.tuple #[.pointer none, .int .i64 1]) ∧ w' = W := fun W => by
    by_cases h1 : a.size = 64
    · exact Rnew_no2 a b W h1 (fun h2 => hn ⟨h1, h2⟩)
    · exact Rnew_no1 a b W h1
  have HC : Hid _ := hcall
  clear hcall
  go_enter Tryz.func11, Tryz.ntmps11
  go_wp2_with fail
  refine (hB.new_no a b _ ha hb hn).mono ?_
  rintro e w1 ⟨rfl, b1⟩
  go_wp2_with fail
  refine Calls.mono (HC.out _) ?_
  rintro e w2 ⟨rfl, rfl⟩
  go_wp2_with (go_at_call 20; refine (num_any _ _).mono ?_; rintro e w' ⟨rfl, rfl⟩)
  go_ret
  exact ⟨rfl, b1⟩

theorem num_same (n : Int) (w : World) : Calls Tryz.prog 20 #[.int .i64 n] w fun e w' => e = .returned (.int .i64 n) ∧ w = w' := (num_any n w).mono fun e w' h => ⟨h.1, h.2.symm⟩

set_option maxRecDepth 100000 in
set_option maxHeartbeats 1000000 in
theorem made_ok {B : PB} (hB : PBok B) (a b : ByteArray) (g base n : Nat) (vb : Value) (xs : List Value) (w : World) (ha : a.size = 64) (hb : b.size = 64)
    (c0 : w.cell? ⟨g, 0, none⟩ = some vb) (f0 : w.frozen? ⟨g, 0, none⟩ = false) (hown : w.ownsRow base 47 2 vb n xs) (hne : vb.ownBlock ≠ some g) (h63 : n + 1 ≤ maxLen) (hby : (n + 1) * 16 ≤ 140737488355328) (hbase : base ≤ w.heap.size) :
    Calls Tryz.prog 11 #[.pointer (some ⟨g, 0, none⟩), .string a, .string b] w fun e w' => e = .returned (.bool true) ∧
      ∃ (l : B.Lt) (L : Lay) (g' cap : Nat), Both B 0 L l (newSt a b) w' ∧ (∀ k, bothOwn B L l k → w.heap.size ≤ k ∧ k ≠ g') ∧ w'.cell? ⟨g, 0, none⟩ = some (.slice (some ⟨g', 0, none⟩) (n + 1) cap) ∧
        w'.ownsRow base 47 2 (.slice (some ⟨g', 0, none⟩) (n + 1) cap) (n + 1) (xs ++ [.pointer (some ⟨B.g l, 0, none⟩), .pointer (some ⟨L.g, 0, none⟩)]) ∧ g' ≠ g ∧ (vb.ownBlock = some g' ∨ w.heap.size ≤ g') ∧ Kept (fun k => k = g ∨ vb.ownBlock = some k) w w' ∧ (∀ j, j ≠ 0 → w'.cell? ⟨g, j, none⟩ = w.cell? ⟨g, j, none⟩) ∧ (∀ j, w'.frozen? ⟨g, j, none⟩ = w.frozen? ⟨g, j, none⟩) := by
  have hg := lt_of_cell c0
  obtain ⟨i, z, hi, hz, hsize, hbytes, hzs⟩ := pair_info'
  go_enter Tryz.func11, Tryz.ntmps11
  go_wp2_with fail
  refine (hB.new_ok a b _ ha hb).mono ?_
  rintro e w1 ⟨l, rfl, hx1, b1, o1⟩
  go_wp2_with fail
  refine (Rnew_ok a b _ ha hb).mono ?_
  rintro e w2 ⟨L, rfl, hr2, b2, o2, o3, o4⟩
  have b3 : Below w.heap.size w w2 := b1.trans (b2.mono b1.size)
  have c2 : w2.cell? ⟨g, 0, none⟩ = some vb := by rw [b3.cell (p := ⟨g, 0, none⟩) hg]; exact c0
  have f2 : w2.frozen? ⟨g, 0, none⟩ = false := by rw [b3.frozen (p := ⟨g, 0, none⟩) hg]; exact f0
  have hg2 : g < w2.heap.size := Nat.lt_of_lt_of_le hg b3.size
  have hown2 : w2.ownsRow base 47 2 vb n xs := ownsRow_same hown (fun k hk => b3.block k (by
    rcases hown.2 with ⟨hv, _⟩ | ⟨g1, cap1, cur1, hv, _, hg1, _⟩
    · rw [hv] at hk; cases hk
    · rw [hv] at hk
      cases hk
      exact (Array.getElem?_eq_some_iff.1 hg1).1))
  have hown3 : (w2.alloc (.cells #[.pointer (some ⟨B.g l, 0, none⟩), .pointer (some ⟨L.g, 0, none⟩)] 47)).ownsRow base 47 2 vb n xs := hown2.alloc _
  have hbase3 : base ≤ (w2.alloc (.cells #[.pointer (some ⟨B.g l, 0, none⟩), .pointer (some ⟨L.g, 0, none⟩)] 47)).heap.size := by rw [World.size_alloc]; have := b3.size; omega
  have hfar : ∀ w4 : World, (w2.alloc (.cells #[.pointer (some ⟨B.g l, 0, none⟩), .pointer (some ⟨L.g, 0, none⟩)] 47)).grownBy w4 vb.ownBlock → w4.heap[g]? = w2.heap[g]? := fun w4 hgr => by
    rw [hgr.block g (by rw [World.size_alloc]; omega) (fun h => hne h.symm), Below.heap_alloc _ _ _ hg2]
  have he0 : ∀ w4 : World, (w2.alloc (.cells #[.pointer (some ⟨B.g l, 0, none⟩), .pointer (some ⟨L.g, 0, none⟩)] 47)).grownBy w4 vb.ownBlock → w4.cell? ⟨g, 0, none⟩ = some vb := fun w4 hgr => by
    rw [World.cell?_of_block (w := w2) (a := ⟨g, 0, none⟩) (hfar w4 hgr)]; exact c2
  have hef : ∀ w4 : World, (w2.alloc (.cells #[.pointer (some ⟨B.g l, 0, none⟩), .pointer (some ⟨L.g, 0, none⟩)] 47)).grownBy w4 vb.ownBlock → w4.frozen? ⟨g, 0, none⟩ = false := fun w4 hgr => by
    rw [World.frozen?_of_block (w := w2) (a := ⟨g, 0, none⟩) (hfar w4 hgr)]; exact f2
  go_wp2_with (first | (go_at_call 20; refine (num_same _ _).mono ?_; rintro e w' ⟨rfl, rfl⟩) | (at_builtin; refine wpList_append_lies _ rfl _ _ 26 rfl base 47 i z 2 16 Tryz.underlying26 hi hz hsize hbytes hzs (by decide) vb n xs rfl hown3 ⟨w2.heap.size, 0, none⟩ 1 1 [.pointer (some ⟨B.g l, 0, none⟩), .pointer (some ⟨L.g, 0, none⟩)] rfl rfl (cell_two_new _ _ _ _) (fun x hx => by simp at hx; rcases hx with rfl | rfl <;> rfl) (by decide) h63 hby hbase3 _ rfl ?_; intro g' cap w4 hown4 hgrow hat hlt4; have e0 := he0 w4 hgrow; have ef := hef w4 hgrow))
  go_ret
  have hrow : ∀ k, vb.ownBlock = some k → k < w.heap.size := fun k hk => by
    rcases hown.2 with ⟨hv, _⟩ | ⟨g1, cap1, cur1, hv, _, hg1, _⟩
    · rw [hv] at hk; cases hk
    · rw [hv] at hk
      cases hk
      exact (Array.getElem?_eq_some_iff.1 hg1).1
  have hkg : Kept (fun k => k = g ∨ vb.ownBlock = some k) w2 w4 := ((Kept.refl _ w2).alloc _).trans ⟨hgrow.os, hgrow.tape, hgrow.output, hgrow.size, fun k hk hS => hgrow.block k hk (fun e => hS (Or.inr e.symm))⟩
  have hKF : Kept (fun k => k = g ∨ vb.ownBlock = some k) w2 (w4.setCell ⟨g, 0, none⟩ (.slice (some ⟨g', 0, none⟩) (n + 1) cap)) := hkg.setCell (Or.inl (Or.inl rfl)) _
  have hx2 : B.rep 0 l (newSt a b) w2 := hB.kept (S := fun _ => False) hx1 (Kept.below b2) (fun _ _ x => x)
  have hfreshL : ∀ k, L.own k → w.heap.size ≤ k := fun k hk => by
    have := b1.size
    rcases hk with rfl | rfl | rfl <;> omega
  have hfresh : ∀ k, bothOwn B L l k → w.heap.size ≤ k := fun k hk => by
    rcases hk with hk | hk
    · exact hfreshL k hk
    · exact o1 k hk
  have hS : ∀ k, bothOwn B L l k → ¬ (k = g ∨ vb.ownBlock = some k) := fun k hk e => by
    have h1 := hfresh k hk
    rcases e with e | e
    · omega
    · have := hrow k e; omega
  have hap : ∀ k, L.own k → ¬ B.own l k := fun k hL hk => by
    have h1 := hB.lt hx1 hk
    rcases hL with rfl | rfl | rfl <;> omega
  have hb0 : Both B 0 L l (newSt a b) w2 := ⟨hr2, hx2, newSt_inv a b, hap⟩
  have hgg : g' ≠ g := by
    rintro rfl
    rcases hat with h | h
    · exact hne h
    · rw [World.size_alloc] at h; omega
  refine ⟨rfl, l, L, g', cap, hb0.kept hB hKF hS, fun k hk => ⟨hfresh k hk, fun e => ?_⟩, World.cell?_setCell_same _ _ _ e0, ?_, hgg, ?_, ?_, fun j hj => ?_, fun j => ?_⟩
  · have h1 := hfresh k hk
    have h2 := hb0.lt hB hk
    rcases hat with h | h
    · have := hrow g' h; omega
    · rw [World.size_alloc] at h; omega
  · refine ownsRow_same hown4 (fun k hk => ?_)
    cases hk
    exact Below.heap_setCell _ _ _ _ hgg
  · rcases hat with h | h
    · exact Or.inl h
    · right
      rw [World.size_alloc] at h
      have := b3.size
      omega
  · refine Kept.trans (b := w2) ?_ hKF
    exact ⟨b3.os, b3.tape, b3.output, b3.size, fun k hk _ => b3.block k hk⟩
  · rw [World.cell?_setCell_other _ _ _ _ (by intro x; exact hj (congrArg Addr.off x).symm), World.cell?_of_block (w := w) (a := ⟨g, j, none⟩) ((hfar w4 hgrow).trans (b3.block g hg))]
  · rw [World.frozen?_setCell, World.frozen?_of_block (w := w) (a := ⟨g, j, none⟩) ((hfar w4 hgrow).trans (b3.block g hg))]

end Go.Proofs.YtommhbidkoeifaaGreat
