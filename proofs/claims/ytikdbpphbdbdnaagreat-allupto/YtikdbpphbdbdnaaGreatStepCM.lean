/- One step of a script on a board that is there: Step, For, Tell. -/
import Derived.Test.YtikdbpphbdbdnaaGreatStepBM
import Derived.Deep.RegionHeld3
namespace Go.Proofs.YtikdbpphbdbdnaaGreat
open Go.RowKit
set_option linter.unusedVariables false

theorem entCells_at {B : PB} (es : List (Ent B)) (i : Nat) (e : Ent B) (he : es[i]? = some e) : (entCells B es)[i * 2]? = some (.pointer (some ⟨B.g e.l, 0, none⟩)) ∧ (entCells B es)[i * 2 + 1]? = some (.pointer (some ⟨e.L.g, 0, none⟩)) := by
  unfold entCells
  induction es generalizing i with
  | nil => cases he
  | cons x r ih =>
    cases i with
    | zero =>
      simp only [List.getElem?_cons_zero, Option.some.injEq] at he
      subst he
      exact ⟨rfl, rfl⟩
    | succ i =>
      simp only [List.getElem?_cons_succ] at he
      have h := ih i he
      rw [List.flatMap_cons, show (i + 1) * 2 = (i * 2) + 2 from by omega, show i * 2 + 2 + 1 = (i * 2 + 1) + 2 from by omega]
      exact h

theorem cell_in {w : World} {b : Nat} {cs : Array Value} {t : TypeId} (h : w.heap[b]? = some (.cells cs t)) (j : Nat) : w.cell? ⟨b, j, none⟩ = cs[j]? := by
  simp [World.cell?, h]

/-- The blocks in which scripts and their inputs lie. -/
def Old (g base : Nat) (k : Nat) : Prop := k < base ∧ k ≠ g

/-- The cells of the i-th pair. -/
theorem Tab.pair {B : PB} {cy g base : Nat} {vb : Value} {es : List (Ent B)} {w : World} (h : Tab B cy g base vb es w) {i : Nat} {e : Ent B} (he : es[i]? = some e) :
    ∃ rb cap, vb = .slice (some ⟨rb, 0, none⟩) es.length cap ∧ base ≤ rb ∧ rb < w.heap.size ∧ w.cell? ⟨rb, i * 2, none⟩ = some (.pointer (some ⟨B.g e.l, 0, none⟩)) ∧ w.cell? ⟨rb, i * 2 + 1, none⟩ = some (.pointer (some ⟨e.L.g, 0, none⟩)) := by
  have hi : i < es.length := (List.getElem?_eq_some_iff.1 he).1
  rcases h.row.2 with ⟨_, h0⟩ | ⟨rb, cap, cur, hv, hb, hg, hn, hm, hsz, hxs⟩
  · omega
  · obtain ⟨q0, q1⟩ := entCells_at es i e he
    rw [← hxs] at q0 q1
    rw [List.getElem?_take_of_lt (by omega), Array.getElem?_toList] at q0 q1
    exact ⟨rb, cap, hv, hb, (Array.getElem?_eq_some_iff.1 hg).1, by rw [cell_in hg]; exact q0, by rw [cell_in hg]; exact q1⟩

theorem Tab.len {B : PB} {cy g base : Nat} {vb : Value} {es : List (Ent B)} {w : World} (h : Tab B cy g base vb es w) (h0 : es.length = 0) : ∃ a cap, vb = .slice a 0 cap := by
  rcases h.row.2 with ⟨hv, _⟩ | ⟨rb, cap, cur, hv, _⟩
  · exact ⟨none, 0, hv⟩
  · exact ⟨_, cap, by rw [hv, h0]⟩

set_option maxRecDepth 100000 in
set_option maxHeartbeats 1000000 in
theorem step_none {B : PB} (hB : PBok B) {cy g base : Nat} {vb : Value} {es : List (Ent B)} {w : World} (h : Tab B cy g base vb es w) (hcy : cy + 1048576 < 1152921504606846976) (h0 : es.length = 0) (k a b p q : Int) (s t : ByteArray) (la : Option Addr) (ll lc : Nat) (hk : 6 ≤ k) :
    Calls Tryz.prog 9 #[.pointer (some ⟨g, 0, none⟩), .agg #[.int .i64 k, .int .i64 a, .int .i64 b, .string s, .string t, .int .i64 p, .int .i64 q, .slice la ll lc]] w fun e w' => e = .returned (.bool true) ∧ Left B (cy + 1048576) g base es w w' := by
  obtain ⟨va, cap, rfl⟩ := h.len h0
  have c0 := h.c0
  have hg := lt_of_cell c0
  have k3 : ¬ k ≤ 3 := by omega
  have e4 : (k == 4) = false := beq_eq_false_iff_ne.2 (by omega)
  have e5 : (k == 5) = false := beq_eq_false_iff_ne.2 (by omega)
  have hq := fun o => h.quiet hB ((Kept.refl _ w).alloc o)
  go_enter Tryz.func9, Tryz.ntmps9
  go_wp2
  go_ret
  exact ⟨rfl, _, es, (hq _).later hB (by omega), by omega, (Kept.refl _ w).alloc _⟩

set_option maxRecDepth 100000 in
set_option maxHeartbeats 1000000 in
theorem step_steps6 {B : PB} (hB : PBok B) {cy g base : Nat} {vb : Value} {es : List (Ent B)} {w : World} (h : Tab B cy g base vb es w) (hcy : cy + 1048576 < 1152921504606846976) (h0 : 0 < es.length) (hmax : es.length ≤ maxLen) (a b p q : Int) (s t : ByteArray) (la : Option Addr) (ll lc : Nat) (a0 : -9223372036854775808 ≤ a) (a1 : a ≤ 9223372036854775807) (hl : IsIns w (Old g base) la ll) (hll : ll ≤ maxLen) (hl20 : ll ≤ 1048576) :
    Calls Tryz.prog 9 #[.pointer (some ⟨g, 0, none⟩), .agg #[.int .i64 6, .int .i64 a, .int .i64 b, .string s, .string t, .int .i64 p, .int .i64 q, .slice la ll lc]] w fun e w' => e = .returned (.bool true) ∧ Left B (cy + 1048576) g base es w w' := by
  unfold maxLen at hmax
  obtain ⟨pk0, pk1⟩ := pickN_bounds a es.length (by omega)
  obtain ⟨e, he⟩ : ∃ e, es[(pickN a es.length).toNat]? = some e := ⟨es[(pickN a es.length).toNat]'(by omega), List.getElem?_eq_getElem (by omega)⟩
  obtain ⟨rb, cap, rfl, hrb, hrbw, r0, r1⟩ := h.pair he
  have c0 := h.c0
  have hg := lt_of_cell c0
  have hlen : ((es.length : Int) == 0) = false := beq_eq_false_iff_ne.2 (by omega)
  have hS : ∀ W : World, Kept (fun _ => False) (w.alloc (.cells #[.int .i64 6, .int .i64 a, .int .i64 b, .string s, .string t, .int .i64 p, .int .i64 q, .slice la ll lc] 36)) W → W.cell? ⟨g, 0, none⟩ = some (.slice (some ⟨rb, 0, none⟩) es.length cap) ∧ W.cell? ⟨w.heap.size, 1, none⟩ = some (.int .i64 a) ∧ W.cell? ⟨rb, (pickN a es.length).toNat * 2, none⟩ = some (.pointer (some ⟨B.g e.l, 0, none⟩)) ∧ W.cell? ⟨rb, (pickN a es.length).toNat * 2 + 1, none⟩ = some (.pointer (some ⟨e.L.g, 0, none⟩)) := fun W hW =>
    ⟨by rw [hW.cell (b := g) (by simp; omega) (fun x => x), World.cell?_alloc_past _ _ _ hg]; exact c0, by rw [hW.cell (b := w.heap.size) (by simp) (fun x => x)]; simp [go_sem], by rw [hW.cell (b := rb) (by simp; omega) (fun x => x), World.cell?_alloc_past _ _ _ hrbw]; exact r0, by rw [hW.cell (b := rb) (by simp; omega) (fun x => x), World.cell?_alloc_past _ _ _ hrbw]; exact r1⟩
  have HS : Hid _ := hS
  have HP : Hid (∀ W : World, Calls Tryz.prog 15 #[.int .i64 a, .int .i64 (es.length : Int)] W fun e w' => e = .returned (.int .i64 (pickN a es.length)) ∧ w' = W) := fun W => pick_any a es.length W a0 a1 (by omega) (by omega)
  have hT := fun o => h.quiet hB ((Kept.refl _ w).alloc o)
  have hfin : ∀ (W W' : World) (l' : B.Lt) (st' : St), Kept (fun _ => False) w W → Gone B (cy + 1048576) e.L e.l W W' l' st' → Left B (cy + 1048576) g base es w W' := fun W W' l' st' hk hgo =>
    ⟨_, _, (h.quiet hB hk).gone hB (by omega) he hgo, by rw [List.length_set]; omega, (hk.wide (fun _ x => x.elim)).trans (hgo.kept.wide (fun k hk2 => Or.inr (h.own _ e he k hk2).1))⟩
  have hbo : ∀ W : World, Kept (fun _ => False) w W → Both B cy e.L e.l e.st W := fun W hk => (h.each _ e he).kept hB hk (fun _ _ x => x)
  have hTo : ∀ k, Old g base k → ¬ bothOwn B e.L e.l k := fun k hk x => by have := (h.own _ e he k x).1; have := hk.1; omega
  clear hS
  go_enter Tryz.func9, Tryz.ntmps9
  go_wp2
  go_region_held3 (fun W => W.cell? ⟨g, 0, none⟩ = some (.slice (some ⟨rb, 0, none⟩) es.length cap) ∧ W.cell? ⟨w.heap.size, 1, none⟩ = some (.int .i64 a) ∧ W.cell? ⟨rb, (pickN a es.length).toNat * 2, none⟩ = some (.pointer (some ⟨B.g e.l, 0, none⟩)) ∧ W.cell? ⟨rb, (pickN a es.length).toNat * 2 + 1, none⟩ = some (.pointer (some ⟨e.L.g, 0, none⟩))) (first | (apply HS.out; (repeat (with_reducible first | apply Kept.alloc | apply Kept.drewN | apply Kept.drew | apply Kept.rg | apply Kept.p | apply Kept.q | refine Kept.setCell ?_ (Or.inr (Nat.le_refl _)) _ | refine Kept.setCell ?_ (Or.inr (by omega)) _ | exact k1 | exact k2 | exact k3 | exact Kept.refl _ _)); done) | go_keep) (first | (go_at_call 15; refine Calls.mono (HP.out _) ?_; rintro e w' ⟨rfl, rfl⟩))
  all_goals
    go_wp2_with fail
    refine (steps_step hB (hbo _ (by (repeat (with_reducible first | apply Kept.alloc | apply Kept.drewN | apply Kept.drew | apply Kept.rg | apply Kept.p | apply Kept.q | refine Kept.setCell ?_ (Or.inr (Nat.le_refl _)) _ | refine Kept.setCell ?_ (Or.inr (by omega)) _ | exact k1 | exact k2 | exact k3 | exact Kept.refl _ _)))) (Old g base) hTo a b p q s t la ll lc (hl.kept (S := fun _ => False) (by (repeat (with_reducible first | apply Kept.alloc | apply Kept.drewN | apply Kept.drew | apply Kept.rg | apply Kept.p | apply Kept.q | refine Kept.setCell ?_ (Or.inr (Nat.le_refl _)) _ | refine Kept.setCell ?_ (Or.inr (by omega)) _ | exact k1 | exact k2 | exact k3 | exact Kept.refl _ _))) (fun _ _ x => x)) hll (by omega)).mono ?_
    rintro e1 w1 ⟨rfl, l', st', hgo⟩
    go_wp2
    go_ret
    exact ⟨rfl, hfin _ _ l' st' (by (repeat (with_reducible first | apply Kept.alloc | apply Kept.drewN | apply Kept.drew | apply Kept.rg | apply Kept.p | apply Kept.q | refine Kept.setCell ?_ (Or.inr (Nat.le_refl _)) _ | refine Kept.setCell ?_ (Or.inr (by omega)) _ | exact k1 | exact k2 | exact k3 | exact Kept.refl _ _))) (hgo.later hB (by omega))⟩

set_option maxRecDepth 100000 in
set_option maxHeartbeats 1000000 in
theorem step_tell8 {B : PB} (hB : PBok B) {cy g base : Nat} {vb : Value} {es : List (Ent B)} {w : World} (h : Tab B cy g base vb es w) (hcy : cy + 1048576 < 1152921504606846976) (h0 : 0 < es.length) (hmax : es.length ≤ maxLen) (a b p q : Int) (s t : ByteArray) (la : Option Addr) (ll lc : Nat) (a0 : -9223372036854775808 ≤ a) (a1 : a ≤ 9223372036854775807)  :
    Calls Tryz.prog 9 #[.pointer (some ⟨g, 0, none⟩), .agg #[.int .i64 8, .int .i64 a, .int .i64 b, .string s, .string t, .int .i64 p, .int .i64 q, .slice la ll lc]] w fun e w' => e = .returned (.bool true) ∧ Left B (cy + 1048576) g base es w w' := by
  unfold maxLen at hmax
  obtain ⟨pk0, pk1⟩ := pickN_bounds a es.length (by omega)
  obtain ⟨e, he⟩ : ∃ e, es[(pickN a es.length).toNat]? = some e := ⟨es[(pickN a es.length).toNat]'(by omega), List.getElem?_eq_getElem (by omega)⟩
  obtain ⟨rb, cap, rfl, hrb, hrbw, r0, r1⟩ := h.pair he
  have c0 := h.c0
  have hg := lt_of_cell c0
  have hlen : ((es.length : Int) == 0) = false := beq_eq_false_iff_ne.2 (by omega)
  have hS : ∀ W : World, Kept (fun _ => False) (w.alloc (.cells #[.int .i64 8, .int .i64 a, .int .i64 b, .string s, .string t, .int .i64 p, .int .i64 q, .slice la ll lc] 36)) W → W.cell? ⟨g, 0, none⟩ = some (.slice (some ⟨rb, 0, none⟩) es.length cap) ∧ W.cell? ⟨w.heap.size, 1, none⟩ = some (.int .i64 a) ∧ W.cell? ⟨rb, (pickN a es.length).toNat * 2, none⟩ = some (.pointer (some ⟨B.g e.l, 0, none⟩)) ∧ W.cell? ⟨rb, (pickN a es.length).toNat * 2 + 1, none⟩ = some (.pointer (some ⟨e.L.g, 0, none⟩)) := fun W hW =>
    ⟨by rw [hW.cell (b := g) (by simp; omega) (fun x => x), World.cell?_alloc_past _ _ _ hg]; exact c0, by rw [hW.cell (b := w.heap.size) (by simp) (fun x => x)]; simp [go_sem], by rw [hW.cell (b := rb) (by simp; omega) (fun x => x), World.cell?_alloc_past _ _ _ hrbw]; exact r0, by rw [hW.cell (b := rb) (by simp; omega) (fun x => x), World.cell?_alloc_past _ _ _ hrbw]; exact r1⟩
  have HS : Hid _ := hS
  have HP : Hid (∀ W : World, Calls Tryz.prog 15 #[.int .i64 a, .int .i64 (es.length : Int)] W fun e w' => e = .returned (.int .i64 (pickN a es.length)) ∧ w' = W) := fun W => pick_any a es.length W a0 a1 (by omega) (by omega)
  have hT := fun o => h.quiet hB ((Kept.refl _ w).alloc o)
  have hfin : ∀ (W W' : World) (l' : B.Lt) (st' : St), Kept (fun _ => False) w W → Gone B (cy + 1048576) e.L e.l W W' l' st' → Left B (cy + 1048576) g base es w W' := fun W W' l' st' hk hgo =>
    ⟨_, _, (h.quiet hB hk).gone hB (by omega) he hgo, by rw [List.length_set]; omega, (hk.wide (fun _ x => x.elim)).trans (hgo.kept.wide (fun k hk2 => Or.inr (h.own _ e he k hk2).1))⟩
  have hbo : ∀ W : World, Kept (fun _ => False) w W → Both B cy e.L e.l e.st W := fun W hk => (h.each _ e he).kept hB hk (fun _ _ x => x)
  have hTo : ∀ k, Old g base k → ¬ bothOwn B e.L e.l k := fun k hk x => by have := (h.own _ e he k x).1; have := hk.1; omega
  clear hS
  go_enter Tryz.func9, Tryz.ntmps9
  go_wp2
  go_region_held3 (fun W => W.cell? ⟨g, 0, none⟩ = some (.slice (some ⟨rb, 0, none⟩) es.length cap) ∧ W.cell? ⟨w.heap.size, 1, none⟩ = some (.int .i64 a) ∧ W.cell? ⟨rb, (pickN a es.length).toNat * 2, none⟩ = some (.pointer (some ⟨B.g e.l, 0, none⟩)) ∧ W.cell? ⟨rb, (pickN a es.length).toNat * 2 + 1, none⟩ = some (.pointer (some ⟨e.L.g, 0, none⟩))) (first | (apply HS.out; (repeat (with_reducible first | apply Kept.alloc | apply Kept.drewN | apply Kept.drew | apply Kept.rg | apply Kept.p | apply Kept.q | refine Kept.setCell ?_ (Or.inr (Nat.le_refl _)) _ | refine Kept.setCell ?_ (Or.inr (by omega)) _ | exact k1 | exact k2 | exact k3 | exact Kept.refl _ _)); done) | go_keep) (first | (go_at_call 15; refine Calls.mono (HP.out _) ?_; rintro e w' ⟨rfl, rfl⟩))
  all_goals
    go_wp2_with fail
    refine (tells_tell hB (hbo _ (by (repeat (with_reducible first | apply Kept.alloc | apply Kept.drewN | apply Kept.drew | apply Kept.rg | apply Kept.p | apply Kept.q | refine Kept.setCell ?_ (Or.inr (Nat.le_refl _)) _ | refine Kept.setCell ?_ (Or.inr (by omega)) _ | exact k1 | exact k2 | exact k3 | exact Kept.refl _ _)))) a b p q s t la ll lc).mono ?_
    rintro e1 w1 ⟨rfl, l', st', hgo⟩
    go_wp2
    go_ret
    exact ⟨rfl, hfin _ _ l' st' (by (repeat (with_reducible first | apply Kept.alloc | apply Kept.drewN | apply Kept.drew | apply Kept.rg | apply Kept.p | apply Kept.q | refine Kept.setCell ?_ (Or.inr (Nat.le_refl _)) _ | refine Kept.setCell ?_ (Or.inr (by omega)) _ | exact k1 | exact k2 | exact k3 | exact Kept.refl _ _))) (hgo.later hB (by omega))⟩

set_option maxRecDepth 100000 in
set_option maxHeartbeats 1000000 in
theorem step_for7n {B : PB} (hB : PBok B) {cy g base : Nat} {vb : Value} {es : List (Ent B)} {w : World} (h : Tab B cy g base vb es w) (hcy : cy + 1048576 < 1152921504606846976) (h0 : 0 < es.length) (hmax : es.length ≤ maxLen) (a b p q : Int) (s t : ByteArray) (la : Option Addr) (ll lc : Nat) (a0 : -9223372036854775808 ≤ a) (a1 : a ≤ 9223372036854775807) (b0 : -9223372036854775808 ≤ b) (b1 : b ≤ 9223372036854775807) (hl0 : ll = 0) :
    Calls Tryz.prog 9 #[.pointer (some ⟨g, 0, none⟩), .agg #[.int .i64 7, .int .i64 a, .int .i64 b, .string s, .string t, .int .i64 p, .int .i64 q, .slice la ll lc]] w fun e w' => e = .returned (.bool true) ∧ Left B (cy + 1048576) g base es w w' := by
  unfold maxLen at hmax
  subst hl0
  obtain ⟨pk0, pk1⟩ := pickN_bounds a es.length (by omega)
  obtain ⟨e, he⟩ : ∃ e, es[(pickN a es.length).toNat]? = some e := ⟨es[(pickN a es.length).toNat]'(by omega), List.getElem?_eq_getElem (by omega)⟩
  obtain ⟨rb, cap, rfl, hrb, hrbw, r0, r1⟩ := h.pair he
  have c0 := h.c0
  have hg := lt_of_cell c0
  have hlen : ((es.length : Int) == 0) = false := beq_eq_false_iff_ne.2 (by omega)
  have hS : ∀ W : World, Kept (fun _ => False) (w.alloc (.cells #[.int .i64 7, .int .i64 a, .int .i64 b, .string s, .string t, .int .i64 p, .int .i64 q, .slice la 0 lc] 36)) W → W.cell? ⟨g, 0, none⟩ = some (.slice (some ⟨rb, 0, none⟩) es.length cap) ∧ W.cell? ⟨w.heap.size, 1, none⟩ = some (.int .i64 a) ∧ W.cell? ⟨rb, (pickN a es.length).toNat * 2, none⟩ = some (.pointer (some ⟨B.g e.l, 0, none⟩)) ∧ W.cell? ⟨rb, (pickN a es.length).toNat * 2 + 1, none⟩ = some (.pointer (some ⟨e.L.g, 0, none⟩)) := fun W hW =>
    ⟨by rw [hW.cell (b := g) (by simp; omega) (fun x => x), World.cell?_alloc_past _ _ _ hg]; exact c0, by rw [hW.cell (b := w.heap.size) (by simp) (fun x => x)]; simp [go_sem], by rw [hW.cell (b := rb) (by simp; omega) (fun x => x), World.cell?_alloc_past _ _ _ hrbw]; exact r0, by rw [hW.cell (b := rb) (by simp; omega) (fun x => x), World.cell?_alloc_past _ _ _ hrbw]; exact r1⟩
  have HS : Hid _ := hS
  have HP : Hid (∀ W : World, Calls Tryz.prog 15 #[.int .i64 a, .int .i64 (es.length : Int)] W fun e w' => e = .returned (.int .i64 (pickN a es.length)) ∧ w' = W) := fun W => pick_any a es.length W a0 a1 (by omega) (by omega)
  have hT := fun o => h.quiet hB ((Kept.refl _ w).alloc o)
  have hfin : ∀ (W W' : World) (l' : B.Lt) (st' : St), Kept (fun _ => False) w W → Gone B (cy + 1048576) e.L e.l W W' l' st' → Left B (cy + 1048576) g base es w W' := fun W W' l' st' hk hgo =>
    ⟨_, _, (h.quiet hB hk).gone hB (by omega) he hgo, by rw [List.length_set]; omega, (hk.wide (fun _ x => x.elim)).trans (hgo.kept.wide (fun k hk2 => Or.inr (h.own _ e he k hk2).1))⟩
  have hbo : ∀ W : World, Kept (fun _ => False) w W → Both B cy e.L e.l e.st W := fun W hk => (h.each _ e he).kept hB hk (fun _ _ x => x)
  have hTo : ∀ k, Old g base k → ¬ bothOwn B e.L e.l k := fun k hk x => by have := (h.own _ e he k x).1; have := hk.1; omega
  clear hS
  go_enter Tryz.func9, Tryz.ntmps9
  go_wp2
  go_region_held3 (fun W => W.cell? ⟨g, 0, none⟩ = some (.slice (some ⟨rb, 0, none⟩) es.length cap) ∧ W.cell? ⟨w.heap.size, 1, none⟩ = some (.int .i64 a) ∧ W.cell? ⟨rb, (pickN a es.length).toNat * 2, none⟩ = some (.pointer (some ⟨B.g e.l, 0, none⟩)) ∧ W.cell? ⟨rb, (pickN a es.length).toNat * 2 + 1, none⟩ = some (.pointer (some ⟨e.L.g, 0, none⟩))) (first | (apply HS.out; (repeat (with_reducible first | apply Kept.alloc | apply Kept.drewN | apply Kept.drew | apply Kept.rg | apply Kept.p | apply Kept.q | refine Kept.setCell ?_ (Or.inr (Nat.le_refl _)) _ | refine Kept.setCell ?_ (Or.inr (by omega)) _ | exact k1 | exact k2 | exact k3 | exact Kept.refl _ _)); done) | go_keep) (first | (go_at_call 15; refine Calls.mono (HP.out _) ?_; rintro e w' ⟨rfl, rfl⟩))
  all_goals
    go_wp2_with fail
    refine (steps_for_none hB (by omega) (hbo _ (by (repeat (with_reducible first | apply Kept.alloc | apply Kept.drewN | apply Kept.drew | apply Kept.rg | apply Kept.p | apply Kept.q | refine Kept.setCell ?_ (Or.inr (Nat.le_refl _)) _ | refine Kept.setCell ?_ (Or.inr (by omega)) _ | exact k1 | exact k2 | exact k3 | exact Kept.refl _ _)))) 7 a b p q s t la 0 lc rfl b0 b1 rfl).mono ?_
    rintro e1 w1 ⟨rfl, l', st', hgo⟩
    go_wp2
    go_ret
    exact ⟨rfl, hfin _ _ l' st' (by (repeat (with_reducible first | apply Kept.alloc | apply Kept.drewN | apply Kept.drew | apply Kept.rg | apply Kept.p | apply Kept.q | refine Kept.setCell ?_ (Or.inr (Nat.le_refl _)) _ | refine Kept.setCell ?_ (Or.inr (by omega)) _ | exact k1 | exact k2 | exact k3 | exact Kept.refl _ _))) (hgo.later hB (by omega))⟩

set_option maxRecDepth 100000 in
set_option maxHeartbeats 1000000 in
theorem step_for7s {B : PB} (hB : PBok B) {cy g base : Nat} {vb : Value} {es : List (Ent B)} {w : World} (h : Tab B cy g base vb es w) (hcy : cy + 1048576 < 1152921504606846976) (h0 : 0 < es.length) (hmax : es.length ≤ maxLen) (a b p q : Int) (s t : ByteArray) (la : Option Addr) (ll lc : Nat) (a0 : -9223372036854775808 ≤ a) (a1 : a ≤ 9223372036854775807) (hl : IsIns w (Old g base) la ll) (hll : ll ≤ maxLen) (b0 : -9223372036854775808 ≤ b) (b1 : b ≤ 9223372036854775807) (hl0 : 0 < ll) :
    Calls Tryz.prog 9 #[.pointer (some ⟨g, 0, none⟩), .agg #[.int .i64 7, .int .i64 a, .int .i64 b, .string s, .string t, .int .i64 p, .int .i64 q, .slice la ll lc]] w fun e w' => e = .returned (.bool true) ∧ Left B (cy + 1048576) g base es w w' := by
  unfold maxLen at hmax
  obtain ⟨pk0, pk1⟩ := pickN_bounds a es.length (by omega)
  obtain ⟨e, he⟩ : ∃ e, es[(pickN a es.length).toNat]? = some e := ⟨es[(pickN a es.length).toNat]'(by omega), List.getElem?_eq_getElem (by omega)⟩
  obtain ⟨rb, cap, rfl, hrb, hrbw, r0, r1⟩ := h.pair he
  have c0 := h.c0
  have hg := lt_of_cell c0
  have hlen : ((es.length : Int) == 0) = false := beq_eq_false_iff_ne.2 (by omega)
  have hS : ∀ W : World, Kept (fun _ => False) (w.alloc (.cells #[.int .i64 7, .int .i64 a, .int .i64 b, .string s, .string t, .int .i64 p, .int .i64 q, .slice la ll lc] 36)) W → W.cell? ⟨g, 0, none⟩ = some (.slice (some ⟨rb, 0, none⟩) es.length cap) ∧ W.cell? ⟨w.heap.size, 1, none⟩ = some (.int .i64 a) ∧ W.cell? ⟨rb, (pickN a es.length).toNat * 2, none⟩ = some (.pointer (some ⟨B.g e.l, 0, none⟩)) ∧ W.cell? ⟨rb, (pickN a es.length).toNat * 2 + 1, none⟩ = some (.pointer (some ⟨e.L.g, 0, none⟩)) := fun W hW =>
    ⟨by rw [hW.cell (b := g) (by simp; omega) (fun x => x), World.cell?_alloc_past _ _ _ hg]; exact c0, by rw [hW.cell (b := w.heap.size) (by simp) (fun x => x)]; simp [go_sem], by rw [hW.cell (b := rb) (by simp; omega) (fun x => x), World.cell?_alloc_past _ _ _ hrbw]; exact r0, by rw [hW.cell (b := rb) (by simp; omega) (fun x => x), World.cell?_alloc_past _ _ _ hrbw]; exact r1⟩
  have HS : Hid _ := hS
  have HP : Hid (∀ W : World, Calls Tryz.prog 15 #[.int .i64 a, .int .i64 (es.length : Int)] W fun e w' => e = .returned (.int .i64 (pickN a es.length)) ∧ w' = W) := fun W => pick_any a es.length W a0 a1 (by omega) (by omega)
  have hT := fun o => h.quiet hB ((Kept.refl _ w).alloc o)
  have hfin : ∀ (W W' : World) (l' : B.Lt) (st' : St), Kept (fun _ => False) w W → Gone B (cy + 1048576) e.L e.l W W' l' st' → Left B (cy + 1048576) g base es w W' := fun W W' l' st' hk hgo =>
    ⟨_, _, (h.quiet hB hk).gone hB (by omega) he hgo, by rw [List.length_set]; omega, (hk.wide (fun _ x => x.elim)).trans (hgo.kept.wide (fun k hk2 => Or.inr (h.own _ e he k hk2).1))⟩
  have hbo : ∀ W : World, Kept (fun _ => False) w W → Both B cy e.L e.l e.st W := fun W hk => (h.each _ e he).kept hB hk (fun _ _ x => x)
  have hTo : ∀ k, Old g base k → ¬ bothOwn B e.L e.l k := fun k hk x => by have := (h.own _ e he k x).1; have := hk.1; omega
  clear hS
  go_enter Tryz.func9, Tryz.ntmps9
  go_wp2
  go_region_held3 (fun W => W.cell? ⟨g, 0, none⟩ = some (.slice (some ⟨rb, 0, none⟩) es.length cap) ∧ W.cell? ⟨w.heap.size, 1, none⟩ = some (.int .i64 a) ∧ W.cell? ⟨rb, (pickN a es.length).toNat * 2, none⟩ = some (.pointer (some ⟨B.g e.l, 0, none⟩)) ∧ W.cell? ⟨rb, (pickN a es.length).toNat * 2 + 1, none⟩ = some (.pointer (some ⟨e.L.g, 0, none⟩))) (first | (apply HS.out; (repeat (with_reducible first | apply Kept.alloc | apply Kept.drewN | apply Kept.drew | apply Kept.rg | apply Kept.p | apply Kept.q | refine Kept.setCell ?_ (Or.inr (Nat.le_refl _)) _ | refine Kept.setCell ?_ (Or.inr (by omega)) _ | exact k1 | exact k2 | exact k3 | exact Kept.refl _ _)); done) | go_keep) (first | (go_at_call 15; refine Calls.mono (HP.out _) ?_; rintro e w' ⟨rfl, rfl⟩))
  all_goals
    go_wp2_with fail
    refine (steps_for_some hB (by omega) (hbo _ (by (repeat (with_reducible first | apply Kept.alloc | apply Kept.drewN | apply Kept.drew | apply Kept.rg | apply Kept.p | apply Kept.q | refine Kept.setCell ?_ (Or.inr (Nat.le_refl _)) _ | refine Kept.setCell ?_ (Or.inr (by omega)) _ | exact k1 | exact k2 | exact k3 | exact Kept.refl _ _)))) 7 a b p q s t la ll lc rfl b0 b1 (Old g base) hTo (hl.kept (S := fun _ => False) (by (repeat (with_reducible first | apply Kept.alloc | apply Kept.drewN | apply Kept.drew | apply Kept.rg | apply Kept.p | apply Kept.q | refine Kept.setCell ?_ (Or.inr (Nat.le_refl _)) _ | refine Kept.setCell ?_ (Or.inr (by omega)) _ | exact k1 | exact k2 | exact k3 | exact Kept.refl _ _))) (fun _ _ x => x)) hl0 hll).mono ?_
    rintro e1 w1 ⟨rfl, l', st', hgo⟩
    go_wp2
    go_ret
    exact ⟨rfl, hfin _ _ l' st' (by (repeat (with_reducible first | apply Kept.alloc | apply Kept.drewN | apply Kept.drew | apply Kept.rg | apply Kept.p | apply Kept.q | refine Kept.setCell ?_ (Or.inr (Nat.le_refl _)) _ | refine Kept.setCell ?_ (Or.inr (by omega)) _ | exact k1 | exact k2 | exact k3 | exact Kept.refl _ _))) (hgo.later hB (by omega))⟩


end Go.Proofs.YtikdbpphbdbdnaaGreat
