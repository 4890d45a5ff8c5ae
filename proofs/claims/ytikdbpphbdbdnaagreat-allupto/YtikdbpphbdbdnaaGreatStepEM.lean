/- One step of a script on a board that is there: Image, Peek, Run. -/
import Derived.Test.YtikdbpphbdbdnaaGreatTellsM
import Derived.Test.YtikdbpphbdbdnaaGreatTableN
namespace Go.Proofs.YtikdbpphbdbdnaaGreat
open Go.RowKit
set_option linter.unusedVariables false

set_option maxRecDepth 100000 in
set_option maxHeartbeats 1000000 in
theorem step_image10 {B : PB} (hB : PBok B) (hMo : PBmore B) {cy g base : Nat} {vb : Value} {es : List (Ent B)} {w : World} (h : Tab B cy g base vb es w) (hcy : cy + 1048576 < 1152921504606846976) (h0 : 0 < es.length) (hmax : es.length ≤ maxLen) (a b p q : Int) (s t : ByteArray) (la : Option Addr) (ll lc : Nat) (a0 : -9223372036854775808 ≤ a) (a1 : a ≤ 9223372036854775807)  :
    Calls Tryz.prog 9 #[.pointer (some ⟨g, 0, none⟩), .agg #[.int .i64 10, .int .i64 a, .int .i64 b, .string s, .string t, .int .i64 p, .int .i64 q, .slice la ll lc]] w fun e w' => e = .returned (.bool true) ∧ Left B (cy + 1048576) g base es w w' := by
  unfold maxLen at hmax
  obtain ⟨pk0, pk1⟩ := pickN_bounds a es.length (by omega)
  obtain ⟨e, he⟩ : ∃ e, es[(pickN a es.length).toNat]? = some e := ⟨es[(pickN a es.length).toNat]'(by omega), List.getElem?_eq_getElem (by omega)⟩
  obtain ⟨rb, cap, rfl, hrb, hrbw, r0, r1⟩ := h.pair he
  have c0 := h.c0
  have hg := lt_of_cell c0
  have hlen : ((es.length : Int) == 0) = false := beq_eq_false_iff_ne.2 (by omega)
  have hS : ∀ W : World, Kept (fun _ => False) (w.alloc (.cells #[.int .i64 10, .int .i64 a, .int .i64 b, .string s, .string t, .int .i64 p, .int .i64 q, .slice la ll lc] 36)) W → W.cell? ⟨g, 0, none⟩ = some (.slice (some ⟨rb, 0, none⟩) es.length cap) ∧ W.cell? ⟨w.heap.size, 1, none⟩ = some (.int .i64 a) ∧ W.cell? ⟨rb, (pickN a es.length).toNat * 2, none⟩ = some (.pointer (some ⟨B.g e.l, 0, none⟩)) ∧ W.cell? ⟨rb, (pickN a es.length).toNat * 2 + 1, none⟩ = some (.pointer (some ⟨e.L.g, 0, none⟩)) := fun W hW =>
    ⟨by rw [hW.cell (b := g) (by simp; omega) (fun x => x), World.cell?_alloc_past _ _ _ hg]; exact c0, by rw [hW.cell (b := w.heap.size) (by simp) (fun x => x)]; simp [go_sem], by rw [hW.cell (b := rb) (by simp; omega) (fun x => x), World.cell?_alloc_past _ _ _ hrbw]; exact r0, by rw [hW.cell (b := rb) (by simp; omega) (fun x => x), World.cell?_alloc_past _ _ _ hrbw]; exact r1⟩
  have HS : Hid _ := hS
  have HP : Hid (∀ W : World, Calls Tryz.prog 15 #[.int .i64 a, .int .i64 (es.length : Int)] W fun e w' => e = .returned (.int .i64 (pickN a es.length)) ∧ w' = W) := fun W => pick_any a es.length W a0 a1 (by omega) (by omega)
  have hT := fun o => h.quiet hB ((Kept.refl _ w).alloc o)
  have hfin : ∀ (W W' : World) (l' : B.Lt) (st' : St), Kept (fun _ => False) w W → Gone B (cy + 1048576) e.L e.l W W' l' st' → Left B (cy + 1048576) g base es w W' := fun W W' l' st' hk hgo =>
    ⟨_, _, (h.quiet hB hk).gone hB (by omega) he hgo, by rw [List.length_set]; omega, (hk.wide (fun _ x => x.elim)).trans (hgo.kept.wide (fun k hk2 => Or.inr (h.own _ e he k hk2).1))⟩
  have hbo : ∀ W : World, Kept (fun _ => False) w W → Both B cy e.L e.l e.st W := fun W hk => (h.each _ e he).kept hB hk (fun _ _ x => x)
  have hTo : ∀ k, Old g base k → ¬ bothOwn B e.L e.l k := fun k hk x => by have := (h.own _ e he k x).1; have := hk.1; omega
  clear hS
  go_enter Tryz.func9, Tryz.ntmps9
  go_wp2
  go_region_held3 (fun W => W.cell? ⟨g, 0, none⟩ = some (.slice (some ⟨rb, 0, none⟩) es.length cap) ∧ W.cell? ⟨w.heap.size, 1, none⟩ = some (.int .i64 a) ∧ W.cell? ⟨rb, (pickN a es.length).toNat * 2, none⟩ = some (.pointer (some ⟨B.g e.l, 0, none⟩)) ∧ W.cell? ⟨rb, (pickN a es.length).toNat * 2 + 1, none⟩ = some (.pointer (some ⟨e.L.g, 0, none⟩))) (first | (apply HS.out; (repeat (with_reducible first | apply Kept.alloc | apply Kept.drewN | apply Kept.drew | apply Kept.rg | apply Kept.p | apply Kept.q | refine Kept.setCell ?_ (Or.inr (Nat.le_refl _)) _ | refine Kept.setCell ?_ (Or.inr (by omega)) _ | exact k1 | exact k2 | exact k3 | exact Kept.refl _ _)); done) | go_keep) (first | (go_at_call 15; refine Calls.mono (HP.out _) ?_; rintro e w' ⟨rfl, rfl⟩))
  all_goals
    go_wp2_with fail
    refine (tells_image hB hMo (hbo _ (by (repeat (with_reducible first | apply Kept.alloc | apply Kept.drewN | apply Kept.drew | apply Kept.rg | apply Kept.p | apply Kept.q | refine Kept.setCell ?_ (Or.inr (Nat.le_refl _)) _ | refine Kept.setCell ?_ (Or.inr (by omega)) _ | exact k1 | exact k2 | exact k3 | exact Kept.refl _ _)))) a b p q s t la ll lc).mono ?_
    rintro e1 w1 ⟨rfl, l', st', hgo⟩
    go_wp2
    go_ret
    exact ⟨rfl, hfin _ _ l' st' (by (repeat (with_reducible first | apply Kept.alloc | apply Kept.drewN | apply Kept.drew | apply Kept.rg | apply Kept.p | apply Kept.q | refine Kept.setCell ?_ (Or.inr (Nat.le_refl _)) _ | refine Kept.setCell ?_ (Or.inr (by omega)) _ | exact k1 | exact k2 | exact k3 | exact Kept.refl _ _))) (hgo.later hB (by omega))⟩

set_option maxRecDepth 100000 in
set_option maxHeartbeats 1000000 in
theorem step_peek11 {B : PB} (hB : PBok B) (hMo : PBmore B) {cy g base : Nat} {vb : Value} {es : List (Ent B)} {w : World} (h : Tab B cy g base vb es w) (hcy : cy + 1048576 < 1152921504606846976) (h0 : 0 < es.length) (hmax : es.length ≤ maxLen) (a b p q : Int) (s t : ByteArray) (la : Option Addr) (ll lc : Nat) (a0 : -9223372036854775808 ≤ a) (a1 : a ≤ 9223372036854775807)  :
    Calls Tryz.prog 9 #[.pointer (some ⟨g, 0, none⟩), .agg #[.int .i64 11, .int .i64 a, .int .i64 b, .string s, .string t, .int .i64 p, .int .i64 q, .slice la ll lc]] w fun e w' => e = .returned (.bool true) ∧ Left B (cy + 1048576) g base es w w' := by
  unfold maxLen at hmax
  obtain ⟨pk0, pk1⟩ := pickN_bounds a es.length (by omega)
  obtain ⟨e, he⟩ : ∃ e, es[(pickN a es.length).toNat]? = some e := ⟨es[(pickN a es.length).toNat]'(by omega), List.getElem?_eq_getElem (by omega)⟩
  obtain ⟨rb, cap, rfl, hrb, hrbw, r0, r1⟩ := h.pair he
  have c0 := h.c0
  have hg := lt_of_cell c0
  have hlen : ((es.length : Int) == 0) = false := beq_eq_false_iff_ne.2 (by omega)
  have hS : ∀ W : World, Kept (fun _ => False) (w.alloc (.cells #[.int .i64 11, .int .i64 a, .int .i64 b, .string s, .string t, .int .i64 p, .int .i64 q, .slice la ll lc] 36)) W → W.cell? ⟨g, 0, none⟩ = some (.slice (some ⟨rb, 0, none⟩) es.length cap) ∧ W.cell? ⟨w.heap.size, 1, none⟩ = some (.int .i64 a) ∧ W.cell? ⟨rb, (pickN a es.length).toNat * 2, none⟩ = some (.pointer (some ⟨B.g e.l, 0, none⟩)) ∧ W.cell? ⟨rb, (pickN a es.length).toNat * 2 + 1, none⟩ = some (.pointer (some ⟨e.L.g, 0, none⟩)) := fun W hW =>
    ⟨by rw [hW.cell (b := g) (by simp; omega) (fun x => x), World.cell?_alloc_past _ _ _ hg]; exact c0, by rw [hW.cell (b := w.heap.size) (by simp) (fun x => x)]; simp [go_sem], by rw [hW.cell (b := rb) (by simp; omega) (fun x => x), World.cell?_alloc_past _ _ _ hrbw]; exact r0, by rw [hW.cell (b := rb) (by simp; omega) (fun x => x), World.cell?_alloc_past _ _ _ hrbw]; exact r1⟩
  have HS : Hid _ := hS
  have HP : Hid (∀ W : World, Calls Tryz.prog 15 #[.int .i64 a, .int .i64 (es.length : Int)] W fun e w' => e = .returned (.int .i64 (pickN a es.length)) ∧ w' = W) := fun W => pick_any a es.length W a0 a1 (by omega) (by omega)
  have hT := fun o => h.quiet hB ((Kept.refl _ w).alloc o)
  have hfin : ∀ (W W' : World) (l' : B.Lt) (st' : St), Kept (fun _ => False) w W → Gone B (cy + 1048576) e.L e.l W W' l' st' → Left B (cy + 1048576) g base es w W' := fun W W' l' st' hk hgo =>
    ⟨_, _, (h.quiet hB hk).gone hB (by omega) he hgo, by rw [List.length_set]; omega, (hk.wide (fun _ x => x.elim)).trans (hgo.kept.wide (fun k hk2 => Or.inr (h.own _ e he k hk2).1))⟩
  have hbo : ∀ W : World, Kept (fun _ => False) w W → Both B cy e.L e.l e.st W := fun W hk => (h.each _ e he).kept hB hk (fun _ _ x => x)
  have hTo : ∀ k, Old g base k → ¬ bothOwn B e.L e.l k := fun k hk x => by have := (h.own _ e he k x).1; have := hk.1; omega
  clear hS
  go_enter Tryz.func9, Tryz.ntmps9
  go_wp2
  go_region_held3 (fun W => W.cell? ⟨g, 0, none⟩ = some (.slice (some ⟨rb, 0, none⟩) es.length cap) ∧ W.cell? ⟨w.heap.size, 1, none⟩ = some (.int .i64 a) ∧ W.cell? ⟨rb, (pickN a es.length).toNat * 2, none⟩ = some (.pointer (some ⟨B.g e.l, 0, none⟩)) ∧ W.cell? ⟨rb, (pickN a es.length).toNat * 2 + 1, none⟩ = some (.pointer (some ⟨e.L.g, 0, none⟩))) (first | (apply HS.out; (repeat (with_reducible first | apply Kept.alloc | apply Kept.drewN | apply Kept.drew | apply Kept.rg | apply Kept.p | apply Kept.q | refine Kept.setCell ?_ (Or.inr (Nat.le_refl _)) _ | refine Kept.setCell ?_ (Or.inr (by omega)) _ | exact k1 | exact k2 | exact k3 | exact Kept.refl _ _)); done) | go_keep) (first | (go_at_call 15; refine Calls.mono (HP.out _) ?_; rintro e w' ⟨rfl, rfl⟩))
  all_goals
    go_wp2_with fail
    refine (tells_peek hB hMo (hbo _ (by (repeat (with_reducible first | apply Kept.alloc | apply Kept.drewN | apply Kept.drew | apply Kept.rg | apply Kept.p | apply Kept.q | refine Kept.setCell ?_ (Or.inr (Nat.le_refl _)) _ | refine Kept.setCell ?_ (Or.inr (by omega)) _ | exact k1 | exact k2 | exact k3 | exact Kept.refl _ _)))) a b p q s t la ll lc).mono ?_
    rintro e1 w1 ⟨rfl, l', st', hgo⟩
    go_wp2
    go_ret
    exact ⟨rfl, hfin _ _ l' st' (by (repeat (with_reducible first | apply Kept.alloc | apply Kept.drewN | apply Kept.drew | apply Kept.rg | apply Kept.p | apply Kept.q | refine Kept.setCell ?_ (Or.inr (Nat.le_refl _)) _ | refine Kept.setCell ?_ (Or.inr (by omega)) _ | exact k1 | exact k2 | exact k3 | exact Kept.refl _ _))) (hgo.later hB (by omega))⟩

set_option maxRecDepth 100000 in
set_option maxHeartbeats 1000000 in
theorem step_run9 {B : PB} (hB : PBok B) (hMo : PBmore B) {cy g base : Nat} {vb : Value} {es : List (Ent B)} {w : World} (h : Tab B cy g base vb es w) (hcy : cy + 1048576 < 1152921504606846976) (h0 : 0 < es.length) (hmax : es.length ≤ maxLen) (a b p q : Int) (s t : ByteArray) (la : Option Addr) (ll lc : Nat) (a0 : -9223372036854775808 ≤ a) (a1 : a ≤ 9223372036854775807) (hnil : la = none → ll = 0) (hl : IsIns w (Old g base) la ll) (hl20 : ll ≤ 1048576) (hst : cy ≤ 2199023255552) :
    Calls Tryz.prog 9 #[.pointer (some ⟨g, 0, none⟩), .agg #[.int .i64 9, .int .i64 a, .int .i64 b, .string s, .string t, .int .i64 p, .int .i64 q, .slice la ll lc]] w fun e w' => e = .returned (.bool true) ∧ Left B (cy + 1048576) g base es w w' := by
  unfold maxLen at hmax
  obtain ⟨pk0, pk1⟩ := pickN_bounds a es.length (by omega)
  obtain ⟨e, he⟩ : ∃ e, es[(pickN a es.length).toNat]? = some e := ⟨es[(pickN a es.length).toNat]'(by omega), List.getElem?_eq_getElem (by omega)⟩
  obtain ⟨rb, cap, rfl, hrb, hrbw, r0, r1⟩ := h.pair he
  have c0 := h.c0
  have hg := lt_of_cell c0
  have hlen : ((es.length : Int) == 0) = false := beq_eq_false_iff_ne.2 (by omega)
  have hS : ∀ W : World, Kept (fun _ => False) (w.alloc (.cells #[.int .i64 9, .int .i64 a, .int .i64 b, .string s, .string t, .int .i64 p, .int .i64 q, .slice la ll lc] 36)) W → W.cell? ⟨g, 0, none⟩ = some (.slice (some ⟨rb, 0, none⟩) es.length cap) ∧ W.cell? ⟨w.heap.size, 1, none⟩ = some (.int .i64 a) ∧ W.cell? ⟨rb, (pickN a es.length).toNat * 2, none⟩ = some (.pointer (some ⟨B.g e.l, 0, none⟩)) ∧ W.cell? ⟨rb, (pickN a es.length).toNat * 2 + 1, none⟩ = some (.pointer (some ⟨e.L.g, 0, none⟩)) := fun W hW =>
    ⟨by rw [hW.cell (b := g) (by simp; omega) (fun x => x), World.cell?_alloc_past _ _ _ hg]; exact c0, by rw [hW.cell (b := w.heap.size) (by simp) (fun x => x)]; simp [go_sem], by rw [hW.cell (b := rb) (by simp; omega) (fun x => x), World.cell?_alloc_past _ _ _ hrbw]; exact r0, by rw [hW.cell (b := rb) (by simp; omega) (fun x => x), World.cell?_alloc_past _ _ _ hrbw]; exact r1⟩
  have HS : Hid _ := hS
  have HP : Hid (∀ W : World, Calls Tryz.prog 15 #[.int .i64 a, .int .i64 (es.length : Int)] W fun e w' => e = .returned (.int .i64 (pickN a es.length)) ∧ w' = W) := fun W => pick_any a es.length W a0 a1 (by omega) (by omega)
  have hT := fun o => h.quiet hB ((Kept.refl _ w).alloc o)
  have hfin : ∀ (W W' : World) (l' : B.Lt) (st' : St), Kept (fun _ => False) w W → Gone B (cy + 1048576) e.L e.l W W' l' st' → Left B (cy + 1048576) g base es w W' := fun W W' l' st' hk hgo =>
    ⟨_, _, (h.quiet hB hk).gone hB (by omega) he hgo, by rw [List.length_set]; omega, (hk.wide (fun _ x => x.elim)).trans (hgo.kept.wide (fun k hk2 => Or.inr (h.own _ e he k hk2).1))⟩
  have hbo : ∀ W : World, Kept (fun _ => False) w W → Both B cy e.L e.l e.st W := fun W hk => (h.each _ e he).kept hB hk (fun _ _ x => x)
  have hTo : ∀ k, Old g base k → ¬ bothOwn B e.L e.l k := fun k hk x => by have := (h.own _ e he k x).1; have := hk.1; omega
  have HRun : Hid (∀ W : World, Kept (fun _ => False) w W → Calls Tryz.prog 17 #[.pointer (some ⟨g, 0, none⟩), .agg #[.pointer (some ⟨B.g e.l, 0, none⟩), .pointer (some ⟨e.L.g, 0, none⟩)], .slice la ll lc] W fun x w' => x = .returned (.bool true) ∧ Left B (cy + 1048576) g base es w w') := fun W hk => by
    have hW := h.quiet hB hk
    obtain ⟨ρ, s0, q1, q2, q3, q4, q5, q6⟩ := hW.rest
    have b0 := bud5 q4 hst
    have b1 : s0.ws.length ≤ 2097152 := Nat.le_trans (Nat.le_add_left _ _) b0
    have b2 := bud7 q5 hst
    have b3 : s0.m ≤ 4611686018427387904 := Int.le_trans (Int.le_add_of_nonneg_right (Int.natCast_nonneg _)) (bud6 q6 hst)
    refine (runs_any hB hMo (hW.each _ e he) q1 hW.bs (fun k hk2 => ⟨(hW.own _ e he k hk2).1, q3 _ e he k hk2⟩) la ll lc hnil (hl.kept (S := fun _ => False) hk (fun _ _ x => x)) hl20 hcy b3 b1 b2).mono fun x w' ⟨hx, hr⟩ => ⟨hx, ?_⟩
    obtain ⟨es', t1, t2, t3⟩ := hW.ran hB (Nat.le_refl _) q1 q2 q3 q4 q5 q6 he hr
    exact ⟨_, es', t1, by rw [t2]; exact Nat.le_add_right _ _, (hk.wide (fun _ x => x.elim)).trans t3⟩
  clear hS
  go_enter Tryz.func9, Tryz.ntmps9
  go_wp2
  go_region_held3 (fun W => W.cell? ⟨g, 0, none⟩ = some (.slice (some ⟨rb, 0, none⟩) es.length cap) ∧ W.cell? ⟨w.heap.size, 1, none⟩ = some (.int .i64 a) ∧ W.cell? ⟨rb, (pickN a es.length).toNat * 2, none⟩ = some (.pointer (some ⟨B.g e.l, 0, none⟩)) ∧ W.cell? ⟨rb, (pickN a es.length).toNat * 2 + 1, none⟩ = some (.pointer (some ⟨e.L.g, 0, none⟩))) (first | (apply HS.out; (repeat (with_reducible first | apply Kept.alloc | apply Kept.drewN | apply Kept.drew | apply Kept.rg | apply Kept.p | apply Kept.q | refine Kept.setCell ?_ (Or.inr (Nat.le_refl _)) _ | refine Kept.setCell ?_ (Or.inr (by omega)) _ | exact k1 | exact k2 | exact k3 | exact Kept.refl _ _)); done) | go_keep) (first | (go_at_call 15; refine Calls.mono (HP.out _) ?_; rintro e w' ⟨rfl, rfl⟩))
  all_goals
    go_wp2_with fail
    refine Calls.mono (HRun.out _ (by (repeat (with_reducible first | apply Kept.alloc | apply Kept.drewN | apply Kept.drew | apply Kept.rg | apply Kept.p | apply Kept.q | refine Kept.setCell ?_ (Or.inr (Nat.le_refl _)) _ | refine Kept.setCell ?_ (Or.inr (by omega)) _ | exact k1 | exact k2 | exact k3 | exact Kept.refl _ _)))) ?_
    rintro e1 w1 ⟨rfl, hL⟩
    go_wp2
    go_ret
    exact ⟨rfl, hL⟩

end Go.Proofs.YtikdbpphbdbdnaaGreat
