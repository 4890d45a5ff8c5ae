/- The queue: two things change places; the last is taken out; one is put behind. -/
import Derived.Test.YtommhbidkoeifaaGreatQueue1
import Derived.Deep.RegionLaw
namespace Go.Proofs.YtommhbidkoeifaaGreat
open Go.RowKit
set_option linter.unusedVariables false
set_option linter.unusedSimpArgs false

/-- The cells of a queue of two. -/
theorem XRep.q_two {l : XL} {st : St} {ex : Ext} {w : World} (hr : XRep l st ex w) {h : Nat} (hq : l.q = some h) {d0 d1 : Du} (hd : ex.due = [d0, d1]) :
    (w.cell? ⟨h, 0, none⟩ = some (duWhat l d0) ∧ w.cell? ⟨h, 1, none⟩ = some (.int .i64 d0.at_) ∧ w.cell? ⟨h, 2, none⟩ = some (.int .i64 (duTurn d0))) ∧ (w.cell? ⟨h, 3, none⟩ = some (duWhat l d1) ∧ w.cell? ⟨h, 4, none⟩ = some (.int .i64 d1.at_) ∧ w.cell? ⟨h, 5, none⟩ = some (.int .i64 (duTurn d1))) ∧
      (w.frozen? ⟨h, 0, none⟩ = false ∧ w.frozen? ⟨h, 1, none⟩ = false ∧ w.frozen? ⟨h, 2, none⟩ = false) ∧ (w.frozen? ⟨h, 3, none⟩ = false ∧ w.frozen? ⟨h, 4, none⟩ = false ∧ w.frozen? ⟨h, 5, none⟩ = false) := by
  have c0 := hr.q_cell hq 0 _ (by rw [hd]; rfl)
  have c1 := hr.q_cell hq 1 _ (by rw [hd]; rfl)
  have c2 := hr.q_cell hq 2 _ (by rw [hd]; rfl)
  have c3 := hr.q_cell hq 3 _ (by rw [hd]; rfl)
  have c4 := hr.q_cell hq 4 _ (by rw [hd]; rfl)
  have c5 := hr.q_cell hq 5 _ (by rw [hd]; rfl)
  exact ⟨⟨c0.1, c1.1, c2.1⟩, ⟨c3.1, c4.1, c5.1⟩, ⟨c0.2, c1.2, c2.2⟩, ⟨c3.2, c4.2, c5.2⟩⟩

/-- The cells of a queue of one. -/
theorem XRep.q_one {l : XL} {st : St} {ex : Ext} {w : World} (hr : XRep l st ex w) {h : Nat} (hq : l.q = some h) {d0 : Du} (hd : ex.due = [d0]) :
    (w.cell? ⟨h, 0, none⟩ = some (duWhat l d0) ∧ w.cell? ⟨h, 1, none⟩ = some (.int .i64 d0.at_) ∧ w.cell? ⟨h, 2, none⟩ = some (.int .i64 (duTurn d0))) ∧
      (w.frozen? ⟨h, 0, none⟩ = false ∧ w.frozen? ⟨h, 1, none⟩ = false ∧ w.frozen? ⟨h, 2, none⟩ = false) := by
  have c0 := hr.q_cell hq 0 _ (by rw [hd]; rfl)
  have c1 := hr.q_cell hq 1 _ (by rw [hd]; rfl)
  have c2 := hr.q_cell hq 2 _ (by rw [hd]; rfl)
  exact ⟨⟨c0.1, c1.1, c2.1⟩, ⟨c0.2, c1.2, c2.2⟩⟩

theorem XRep.c_q {l : XL} {st : St} {ex : Ext} {w : World} (hr : XRep l st ex w) {h : Nat} (hq : l.q = some h) {n : Nat} (hn : ex.due.length = n) : w.cell? ⟨l.ck, 1, none⟩ = some (.slice (some ⟨h, 0, none⟩) n l.cap) := by
  have h1 := hr.c_que
  rw [hn] at h1
  unfold qval at h1
  rw [hq] at h1
  exact h1

/-- Cells of a block after stores into it, by the row. -/
theorem row_put {w : World} {h : Nat} {cur : Array Value} {T : TypeId} (hg : w.heap[h]? = some (.cells cur T (0, 0))) (i : Nat) (v : Value) (hi : i < cur.size) : (w.setCell ⟨h, i, none⟩ v).heap[h]? = some (.cells (cur.setIfInBounds i v) T (0, 0)) := by
  simp only [World.setCell]
  rw [Array.getElem?_modify]
  simp [hg]

theorem XRep.q_turn {l : XL} {st : St} {ex : Ext} {w w' : World} (hr : XRep l st ex w) {h : Nat} (hq : l.q = some h) (hk : Kept (fun k => k = h) w w') (cur : Array Value) (hg : w'.heap[h]? = some (.cells cur 178 (0, 0))) (hs : cur.size = l.cap * 3) (ds : List Du) (hl : ds.length = ex.due.length) (hx : cur.toList.take (ds.length * 3) = duCells l ds) : XRep l st { ex with due := ds } w' := by
  have hne : l.ck ≠ h := hr.qa h hq 3 (by omega)
  have hlt := hr.ck_q
  have cc : ∀ j, w'.cell? ⟨l.ck, j, none⟩ = w.cell? ⟨l.ck, j, none⟩ := fun j => hk.cell hlt hne j
  have ff : ∀ j, w'.frozen? ⟨l.ck, j, none⟩ = w.frozen? ⟨l.ck, j, none⟩ := fun j => hk.frozen hlt hne j
  have hv : ∀ n, qval l n = .slice (some ⟨h, 0, none⟩) n l.cap := fun n => by unfold qval; rw [hq]
  obtain ⟨_, _, hn, hm, _, _⟩ := hr.q_row hq
  have hlen : (duCells l ds).length = ds.length * 3 := by
    unfold duCells
    induction ds with
    | nil => rfl
    | cons a r ih =>
      have e : ∀ r : List Du, (r.flatMap (duCell l)).length = r.length * 3 := fun r => by
        induction r with
        | nil => rfl
        | cons b r ih2 => simp [List.flatMap_cons, ih2, duCell]; omega
      exact e _
  exact hr.requeue l.q l.cap ds (hk.wide (fun k hk2 => Or.inr (by rw [hk2]; exact hq))) (by rw [cc]; exact hr.c_now) (by rw [cc, hl]; exact hr.c_que)
    (fun j hj => by
      rw [ff]
      have : j = 0 ∨ j = 1 := by omega
      rcases this with rfl | rfl
      · exact hr.f_now
      · exact hr.f_que)
    ⟨hlen, Or.inr ⟨h, l.cap, cur, hv _, Nat.zero_le _, hg, by omega, hm, hs, hx⟩⟩ (fun x hx2 => Or.inl hx2)

theorem set6 (cur : Array Value) (h : 6 ≤ cur.size) (a b c d e f : Value) : ((((((cur.setIfInBounds 0 a).setIfInBounds 1 b).setIfInBounds 2 c).setIfInBounds 3 d).setIfInBounds 4 e).setIfInBounds 5 f).toList.take 6 = [a, b, c, d, e, f] := by
  obtain ⟨xs⟩ := cur
  simp only [Array.toList_setIfInBounds]
  match xs, h with
  | x0 :: x1 :: x2 :: x3 :: x4 :: x5 :: r, _ => rfl

theorem set33 (cur : Array Value) (h : 3 ≤ cur.size) (a b c : Value) : ((((((cur.setIfInBounds 0 a).setIfInBounds 1 b).setIfInBounds 2 c).setIfInBounds 0 a).setIfInBounds 1 b).setIfInBounds 2 c).toList.take 3 = [a, b, c] := by
  obtain ⟨xs⟩ := cur
  simp only [Array.toList_setIfInBounds]
  match xs, h with
  | x0 :: x1 :: x2 :: r, _ => rfl

theorem XRep.q_swap {l : XL} {st : St} {ex : Ext} {w : World} (hr : XRep l st ex w) {h : Nat} (hq : l.q = some h) {d0 d1 : Du} (hd : ex.due = [d0, d1]) :
    XRep l st { ex with due := [d1, d0] } ((((((w.setCell ⟨h, 0, none⟩ (duWhat l d1)).setCell ⟨h, 1, none⟩ (.int .i64 d1.at_)).setCell ⟨h, 2, none⟩ (.int .i64 (duTurn d1))).setCell ⟨h, 3, none⟩ (duWhat l d0)).setCell ⟨h, 4, none⟩ (.int .i64 d0.at_)).setCell ⟨h, 5, none⟩ (.int .i64 (duTurn d0))) := by
  obtain ⟨cur, hg, hn, hm, hs, hx⟩ := hr.q_row hq
  rw [hd] at hn
  have hn2 : 2 ≤ l.cap := hn
  refine hr.q_turn hq ?_ _ (row_put (row_put (row_put (row_put (row_put (row_put hg 0 _ (by omega)) 1 _ (by simp; omega)) 2 _ (by simp; omega)) 3 _ (by simp; omega)) 4 _ (by simp; omega)) 5 _ (by simp; omega)) (by simp [hs]) [d1, d0] (by rw [hd]; rfl) (set6 cur (by omega) _ _ _ _ _ _)
  exact ((((((Kept.refl (fun k => k = h) w).setCell (b := h) (Or.inl rfl) _).setCell (b := h) (Or.inl rfl) _).setCell (b := h) (Or.inl rfl) _).setCell (b := h) (Or.inl rfl) _).setCell (b := h) (Or.inl rfl) _).setCell (b := h) (Or.inl rfl) _

theorem XRep.q_stay {l : XL} {st : St} {ex : Ext} {w : World} (hr : XRep l st ex w) {h : Nat} (hq : l.q = some h) {d0 : Du} (hd : ex.due = [d0]) :
    XRep l st ex ((((((w.setCell ⟨h, 0, none⟩ (duWhat l d0)).setCell ⟨h, 1, none⟩ (.int .i64 d0.at_)).setCell ⟨h, 2, none⟩ (.int .i64 (duTurn d0))).setCell ⟨h, 0, none⟩ (duWhat l d0)).setCell ⟨h, 1, none⟩ (.int .i64 d0.at_)).setCell ⟨h, 2, none⟩ (.int .i64 (duTurn d0))) := by
  obtain ⟨cur, hg, hn, hm, hs, hx⟩ := hr.q_row hq
  rw [hd] at hn
  have hn2 : 1 ≤ l.cap := hn
  have h2 := hr.q_turn hq (((((((Kept.refl (fun k => k = h) w).setCell (b := h) (j := 0) (Or.inl rfl) (duWhat l d0)).setCell (b := h) (j := 1) (Or.inl rfl) (.int .i64 d0.at_)).setCell (b := h) (j := 2) (Or.inl rfl) (.int .i64 (duTurn d0))).setCell (b := h) (j := 0) (Or.inl rfl) (duWhat l d0)).setCell (b := h) (j := 1) (Or.inl rfl) (.int .i64 d0.at_)).setCell (b := h) (j := 2) (Or.inl rfl) (.int .i64 (duTurn d0))) _ (row_put (row_put (row_put (row_put (row_put (row_put hg 0 _ (by omega)) 1 _ (by simp <;> omega)) 2 _ (by simp <;> omega)) 0 _ (by simp <;> omega)) 1 _ (by simp <;> omega)) 2 _ (by simp <;> omega)) (by simp [hs]) [d0] (by rw [hd] <;> rfl) (set33 cur (by omega) _ _ _)
  exact h2.as rfl (by rw [← hd])

theorem Kept.qb {l : XL} {a w : World} (h : Kept l.own a w) {b : Nat} (hq : l.q = some b) (j : Nat) (u : Value) : Kept l.own a (w.setCell ⟨b, j, none⟩ u) := h.setCell (Or.inl (Or.inr hq)) u

theorem duWhat_iface (l : XL) (d : Du) : ∃ t a, duWhat l d = .iface t (.pointer (some a)) := by
  unfold duWhat
  split
  · exact ⟨_, _, rfl⟩
  · exact ⟨_, _, rfl⟩

set_option maxHeartbeats 1000000 in
theorem eSwap_01 {l : XL} {st : St} {ex : Ext} {w : World} (hr : XRep l st ex w) {h : Nat} (hq : l.q = some h) {d0 d1 : Du} (hd : ex.due = [d0, d1]) :
    Calls Tryz.prog 130 #[.slice (some ⟨h, 0, none⟩) 2 l.cap, .int .i64 0, .int .i64 1] w fun e w' => e = .returned (.tuple #[]) ∧ XRep l st { ex with due := [d1, d0] } w' ∧ Kept l.own w w' := by
  obtain ⟨⟨c0, c1, c2⟩, ⟨c3, c4, c5⟩, ⟨f0, f1, f2⟩, ⟨f3, f4, f5⟩⟩ := hr.q_two hq hd
  obtain ⟨t0, p0, e0⟩ := duWhat_iface l d0
  obtain ⟨t1, p1, e1⟩ := duWhat_iface l d1
  rw [e0] at c0
  rw [e1] at c3
  have HE0 : Hid _ := e0
  have HE1 : Hid _ := e1
  clear e0 e1
  go_enter Tryz.func130, Tryz.ntmps130
  go_wp2
  go_region
  all_goals
    go_wp2
    (first | go_end0 | refine bodyPost_ret (results_none rfl _ _ _) rfl ?_)
    refine ⟨rfl, ?_, ?_⟩
    · apply XRep.drew
      have h2 := hr.q_swap hq hd
      rw [HE0.out, HE1.out] at h2
      exact h2
    · apply Kept.drew
      exact ((((((Kept.refl _ w).qb hq _ _).qb hq _ _).qb hq _ _).qb hq _ _).qb hq _ _).qb hq _ _

set_option maxHeartbeats 1000000 in
theorem eSwap_00 {l : XL} {st : St} {ex : Ext} {w : World} (hr : XRep l st ex w) {h : Nat} (hq : l.q = some h) {d0 : Du} (hd : ex.due = [d0]) :
    Calls Tryz.prog 130 #[.slice (some ⟨h, 0, none⟩) 1 l.cap, .int .i64 0, .int .i64 0] w fun e w' => e = .returned (.tuple #[]) ∧ XRep l st ex w' ∧ Kept l.own w w' := by
  obtain ⟨⟨c0, c1, c2⟩, ⟨f0, f1, f2⟩⟩ := hr.q_one hq hd
  obtain ⟨t0, p0, e0⟩ := duWhat_iface l d0
  rw [e0] at c0
  have HE0 : Hid _ := e0
  clear e0
  go_enter Tryz.func130, Tryz.ntmps130
  go_wp2
  go_region
  all_goals
    go_wp2
    (first | go_end0 | refine bodyPost_ret (results_none rfl _ _ _) rfl ?_)
    refine ⟨rfl, ?_, ?_⟩
    · apply XRep.drew
      have h2 := hr.q_stay hq hd
      rw [HE0.out] at h2
      exact h2
    · apply Kept.drew
      exact ((((((Kept.refl _ w).qb hq _ _).qb hq _ _).qb hq _ _).qb hq _ _).qb hq _ _).qb hq _ _

/-- The header is set to fewer. -/
theorem XRep.q_cut {l : XL} {st : St} {ex : Ext} {w : World} (hr : XRep l st ex w) {h : Nat} (hq : l.q = some h) (ds : List Du) {d : Du} (hd : ex.due = ds ++ [d]) : XRep l st { ex with due := ds } (w.setCell ⟨l.ck, 1, none⟩ (.slice (some ⟨h, 0, none⟩) ds.length l.cap)) := by
  have hne : h ≠ l.ck := fun e => hr.qa h hq 3 (by omega) e.symm
  have hv : ∀ n, qval l n = .slice (some ⟨h, 0, none⟩) n l.cap := fun n => by unfold qval; rw [hq]
  obtain ⟨cur, hg, hn, hm, hs, hx⟩ := hr.q_row hq
  have hll : ex.due.length = ds.length + 1 := by rw [hd]; simp
  have hlen : (duCells l ds).length = ds.length * 3 := by
    unfold duCells
    have e : ∀ r : List Du, (r.flatMap (duCell l)).length = r.length * 3 := fun r => by
      induction r with
      | nil => rfl
      | cons b r ih2 => simp [List.flatMap_cons, ih2, duCell]; omega
    exact e _
  have hcells : duCells l ex.due = duCells l ds ++ duCell l d := by rw [hd]; unfold duCells; rw [List.flatMap_append]; simp
  refine hr.requeue l.q l.cap ds ((Kept.refl _ w).setCell (Or.inl (Or.inl rfl)) _) ?_ ?_ (fun j hj => ?_) ⟨hlen, Or.inr ⟨h, l.cap, cur, hv _, Nat.zero_le _, ?_, by omega, hm, hs, ?_⟩⟩ (fun x hx2 => Or.inl hx2)
  · rw [World.cell?_setCell_other _ _ _ _ (by intro x; have := congrArg Addr.off x; simp at this)]; exact hr.c_now
  · rw [World.cell?_setCell_same _ _ _ hr.c_que]; rw [hv]
  · rw [World.frozen?_setCell]
    have : j = 0 ∨ j = 1 := by omega
    rcases this with rfl | rfl
    · exact hr.f_now
    · exact hr.f_que
  · rw [Below.heap_setCell _ _ _ _ hne]; exact hg
  · rw [hcells, hll] at hx
    have h3 : cur.toList.take (ds.length * 3) = ((cur.toList.take ((ds.length + 1) * 3)).take (ds.length * 3)) := by rw [List.take_take, Nat.min_eq_left (by omega)]
    rw [h3, hx, ← hlen, List.take_left]

/-- What stands in the queue, as one value. -/
def duVal (l : XL) (d : Du) : Value := .iface 178 (.agg #[duWhat l d, .int .i64 d.at_, .int .i64 (duTurn d)])

set_option maxRecDepth 100000 in
set_option maxHeartbeats 1000000 in
theorem ePop_1 {l : XL} {st : St} {ex : Ext} {w : World} (hr : XRep l st ex w) {d0 : Du} (hd : ex.due = [d0]) :
    Calls Tryz.prog 140 #[.pointer (some ⟨l.ck, 1, none⟩)] w fun e w' => e = .returned (duVal l d0) ∧ XRep l st { ex with due := [] } w' ∧ Kept l.own w w' := by
  obtain ⟨h, hq⟩ := hr.q_some (by rw [hd]; simp)
  obtain ⟨⟨c0, c1, c2⟩, ⟨f0, f1, f2⟩⟩ := hr.q_one hq hd
  have c9 := hr.c_q hq (n := 1) (by rw [hd]; rfl)
  have f9 := hr.f_que
  obtain ⟨t0, p0, e0⟩ := duWhat_iface l d0
  rw [e0] at c0
  have HE0 : Hid _ := e0
  clear e0
  have hlt := hr.ck_q
  have hlh : h < w.heap.size := lt_of_cell c0
  obtain ⟨_, _, hcp, _, _, _⟩ := hr.q_row hq
  have hcp1 : 1 ≤ l.cap := by rw [hd] at hcp; exact hcp
  have HF : Hid _ := fun W (hW : XRep l st ex W) => hW.q_cut hq [] (d := d0) hd
  clear hcp
  go_enter Tryz.func140, Tryz.ntmps140
  go_wp2
  go_ret
  exact ⟨by unfold duVal; rw [HE0.out]; rfl, (HF.out _ hr).alloc _, ((Kept.refl _ w).ck _ _).alloc _⟩

set_option maxRecDepth 100000 in
set_option maxHeartbeats 1000000 in
theorem ePop_2 {l : XL} {st : St} {ex : Ext} {w : World} (hr : XRep l st ex w) {d0 d1 : Du} (hd : ex.due = [d0, d1]) :
    Calls Tryz.prog 140 #[.pointer (some ⟨l.ck, 1, none⟩)] w fun e w' => e = .returned (duVal l d1) ∧ XRep l st { ex with due := [d0] } w' ∧ Kept l.own w w' := by
  obtain ⟨h, hq⟩ := hr.q_some (by rw [hd]; simp)
  obtain ⟨⟨c0, c1, c2⟩, ⟨c3, c4, c5⟩, ⟨f0, f1, f2⟩, ⟨f3, f4, f5⟩⟩ := hr.q_two hq hd
  have c9 := hr.c_q hq (n := 2) (by rw [hd]; rfl)
  have f9 := hr.f_que
  obtain ⟨t0, p0, e0⟩ := duWhat_iface l d1
  rw [e0] at c3
  have HE0 : Hid _ := e0
  clear e0
  have hlt := hr.ck_q
  have hlh : h < w.heap.size := lt_of_cell c3
  obtain ⟨_, _, hcp, _, _, _⟩ := hr.q_row hq
  have hcp1 : 2 ≤ l.cap := by rw [hd] at hcp; exact hcp
  have HF : Hid _ := fun W (hW : XRep l st ex W) => hW.q_cut hq [d0] (d := d1) hd
  clear hcp
  go_enter Tryz.func140, Tryz.ntmps140
  go_wp2
  go_ret
  exact ⟨by unfold duVal; rw [HE0.out]; rfl, (HF.out _ hr).alloc _, ((Kept.refl _ w).ck _ _).alloc _⟩

theorem ent_info2 : (Tryz.prog.info? 178).map (fun i => (i.size, i.bytes, i.zero.map (·.cells.size))) = some (3, 32, some 3) := by kernel_rfl

theorem ent_info3 : ∃ i z, Tryz.prog.info? 178 = some i ∧ i.zero = some z ∧ i.size = 3 ∧ i.bytes = 32 ∧ z.cells.size = 3 := by
  have h := ent_info2
  cases hi : Tryz.prog.info? 178 with
  | none => rw [hi] at h; cases h
  | some i =>
    rw [hi] at h
    simp only [Option.map_some, Option.some.injEq, Prod.mk.injEq] at h
    obtain ⟨h1, h2, h3⟩ := h
    cases hz : i.zero with
    | none => rw [hz] at h3; cases h3
    | some z =>
      rw [hz] at h3
      simp only [Option.map_some, Option.some.injEq] at h3
      exact ⟨i, z, rfl, hz, h1, h2, h3⟩

/-- What the board owns behind an append. -/
def Grew (l l' : XL) (w : World) : Prop := ∃ q cap, l' = { l with q := q, cap := cap } ∧ ∀ h, q = some h → l.q = some h ∨ w.heap.size ≤ h

theorem assert_ent (v : Value) (W : World) : (Instr.typeAssert (.iface 178 v) 20 178 false).run Tryz.prog W = .ok v W := by kernel_rfl

theorem cell_three_new (W : World) (a b c : Value) (T : TypeId) : ∀ (j : Nat) (u : Value), [a, b, c][j]? = some u → (W.alloc (.cells #[a, b, c] T)).cell? ((⟨W.heap.size, 0, none⟩ : Addr).add j) = some u := fun j u hu => by
  have hj : j < 3 := by
    rcases Nat.lt_or_ge j 3 with h | h
    · exact h
    · rw [List.getElem?_eq_none (by exact h)] at hu; cases hu
  have : j = 0 ∨ j = 1 ∨ j = 2 := by omega
  rcases this with rfl | rfl | rfl <;> (cases hu; simp [go_sem, Addr.add])

set_option maxRecDepth 100000 in
set_option maxHeartbeats 1000000 in
theorem ePush_any {l : XL} {st : St} {ex : Ext} {w : World} (hr : XRep l st ex w) (d : Du) (hn : ex.due.length ≤ 2) :
    Calls Tryz.prog 141 #[.pointer (some ⟨l.ck, 1, none⟩), duVal l d] w fun e w' => e = .returned (.tuple #[]) ∧ ∃ l', Grew l l' w ∧ XRep l' st { ex with due := ex.due ++ [d] } w' ∧ Kept l.own w w' := by
  obtain ⟨i, z, hi, hz, hsize, hbytes, hzs⟩ := ent_info3
  have c9 := hr.c_que
  have f9 := hr.f_que
  have hown := hr.qu
  have hlt := hr.ck_q
  unfold duVal
  obtain ⟨t0, p0, e0⟩ := duWhat_iface l d
  rw [e0]
  have HE0 : Hid _ := e0
  clear e0
  generalize hQ : qval l ex.due.length = vb at c9 hown
  have HQ : Hid _ := hQ
  clear hQ
  have hlen : ex.due.length + 1 ≤ maxLen := by unfold maxLen; omega
  have hby : (ex.due.length + 1) * 32 ≤ 140737488355328 := by omega
  have hown3 : (w.drew.alloc (.cells #[.iface t0 (.pointer (some p0)), .int .i64 d.at_, .int .i64 (duTurn d)] 178)).ownsRow 0 178 3 vb ex.due.length (duCells l ex.due) := World.ownsRow.alloc (w := w.drew) hown _
  have hta := assert_ent
  have hnews := cell_three_new w.drew (.iface t0 (.pointer (some p0))) (.int .i64 d.at_) (.int .i64 (duTurn d)) 178
  have hvq : vb.ownBlock = l.q := by rw [← HQ.out]; exact qval_block l _
  have hne : vb.ownBlock ≠ some l.ck := fun e => hr.qa l.ck (by rw [← hvq]; exact e) 3 (by omega) rfl
  have hfar : ∀ w4 : World, (w.alloc (.cells #[.iface t0 (.pointer (some p0)), .int .i64 d.at_, .int .i64 (duTurn d)] 178)).drew.grownBy w4 vb.ownBlock → w4.heap[l.ck]? = w.heap[l.ck]? := fun w4 hgr => by
    rw [hgr.block l.ck (by show _ < (w.alloc _).heap.size; rw [World.size_alloc]; omega) (fun h => hne h.symm)]
    exact Below.heap_alloc w _ _ hlt
  have he0 : ∀ w4 : World, (w.alloc (.cells #[.iface t0 (.pointer (some p0)), .int .i64 d.at_, .int .i64 (duTurn d)] 178)).drew.grownBy w4 vb.ownBlock → w4.cell? ⟨l.ck, 1, none⟩ = some vb := fun w4 hgr => by
    rw [World.cell?_of_block (w := w) (a := ⟨l.ck, 1, none⟩) (hfar w4 hgr)]; exact c9
  have hef : ∀ w4 : World, (w.alloc (.cells #[.iface t0 (.pointer (some p0)), .int .i64 d.at_, .int .i64 (duTurn d)] 178)).drew.grownBy w4 vb.ownBlock → w4.frozen? ⟨l.ck, 1, none⟩ = false := fun w4 hgr => by
    rw [World.frozen?_of_block (w := w) (a := ⟨l.ck, 1, none⟩) (hfar w4 hgr)]; exact f9
  have hlq : ∀ k, l.q = some k → k < w.heap.size := fun k hk => hr.lt (Or.inr hk)
  have HFIN : Hid (∀ (w4 : World) (g' cap : Nat), w4.ownsRow 0 178 3 (.slice (some ⟨g', 0, none⟩) (ex.due.length + 1) cap) (ex.due.length + 1) (duCells l ex.due ++ [.iface t0 (.pointer (some p0)), .int .i64 d.at_, .int .i64 (duTurn d)]) →
      (w.alloc (.cells #[.iface t0 (.pointer (some p0)), .int .i64 d.at_, .int .i64 (duTurn d)] 178)).drew.grownBy w4 vb.ownBlock → (vb.ownBlock = some g' ∨ g' = w.heap.size + 1) →
      (∃ l', Grew l l' w ∧ XRep l' st { ex with due := ex.due ++ [d] } (w4.setCell ⟨l.ck, 1, none⟩ (.slice (some ⟨g', 0, none⟩) (ex.due.length + 1) cap)) ∧ Kept l.own w (w4.setCell ⟨l.ck, 1, none⟩ (.slice (some ⟨g', 0, none⟩) (ex.due.length + 1) cap)))) := fun w4 g' cap ho hgr hat => by
    have hgg : g' ≠ l.ck := by
      rintro rfl
      rcases hat with h | h
      · exact hne h
      · omega
    have k4 : Kept (fun k => k = l.ck ∨ l.q = some k) w w4 := ((Kept.refl _ w).alloc (.cells #[.iface t0 (.pointer (some p0)), .int .i64 d.at_, .int .i64 (duTurn d)] 178)).drew.trans ⟨hgr.os, hgr.tape, hgr.output, hgr.size, fun k hk hS => hgr.block k hk (fun e => hS (Or.inr (by rw [← hvq]; exact e.symm)))⟩
    have hq2 : ∀ h, some g' = some h → l.q = some h ∨ w.heap.size ≤ h := fun h e => by
      cases e
      rcases hat with x | x
      · exact Or.inl (by rw [← hvq]; exact x)
      · exact Or.inr (by omega)
    refine ⟨{ l with q := some g', cap := cap }, ⟨some g', cap, rfl, hq2⟩, ?_, ?_⟩
    · refine hr.requeue (some g') cap (ex.due ++ [d]) (k4.setCell (Or.inl (Or.inl rfl)) _) ?_ ?_ (fun j hj => ?_) ?_ hq2
      · rw [World.cell?_setCell_other _ _ _ _ (by intro x; have := congrArg Addr.off x; simp at this), World.cell?_of_block (w := w) (a := ⟨l.ck, 0, none⟩) (hfar w4 hgr)]
        exact hr.c_now
      · rw [World.cell?_setCell_same _ _ _ (he0 w4 hgr)]
        simp [qval]
      · rw [World.frozen?_setCell, World.frozen?_of_block (w := w) (a := ⟨l.ck, j, none⟩) (hfar w4 hgr)]
        have : j = 0 ∨ j = 1 := by omega
        rcases this with rfl | rfl
        · exact hr.f_now
        · exact hr.f_que
      · have e1 : (ex.due ++ [d]).length = ex.due.length + 1 := by simp
        have e2 : duCells l (ex.due ++ [d]) = duCells l ex.due ++ [.iface t0 (.pointer (some p0)), .int .i64 d.at_, .int .i64 (duTurn d)] := by
          unfold duCells
          rw [List.flatMap_append]
          simp [duCell, HE0.out]
        rw [e1, e2]
        exact row_same ho (fun k hk => by
          cases hk
          exact Below.heap_setCell _ _ _ _ hgg)
    · refine (k4.wide (fun k hk => ?_)).setCell (Or.inl (own_ck l)) _
      rcases hk with rfl | hk
      · exact own_ck l
      · exact Or.inr hk
  clear hvq hne hfar hlq
  go_enter Tryz.func141, Tryz.ntmps141
  go_wp2
  go_region_law (refine step_append_lies _ rfl (.tmp 7) (.tmp 10) 107 rfl 0 178 i z 3 32 Tryz.underlying107 hi hz hsize hbytes hzs (by decide) vb ex.due.length (duCells l ex.due) (by simp [Act.eval, Act.put]) hown3 ⟨w.heap.size, 0, none⟩ 1 1 [.iface t0 (.pointer (some p0)), .int .i64 d.at_, .int .i64 (duTurn d)] (by simp [Act.eval, Act.put]) rfl hnews (fun x hx => by simp at hx; rcases hx with rfl | rfl | rfl <;> rfl) (by decide) hlen hby (Nat.zero_le _) (w.heap.size + 1) (by simp) ?_; intro g' cap w4 hown4 hgrow hat hlt4; have e0 := he0 w4 hgrow; have ef := hef w4 hgrow)
  all_goals
    go_wp2
    (first | go_end0 | refine bodyPost_ret (results_none rfl _ _ _) rfl ?_)
    exact ⟨rfl, HFIN.out _ _ _ hown4 hgrow hat⟩

end Go.Proofs.YtommhbidkoeifaaGreat
