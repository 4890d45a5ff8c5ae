/- Of several texts, one behind the other. -/
import Derived.Test.YtikdbpphbdbdnaaGreatXa
import Derived.Deep.AppendLies
import Derived.Deep.RegionLaw
/- The queue of what is due: its list in memory, and the methods by which container/heap keeps it. -/
namespace Go.Proofs.YtikdbpphbdbdnaaGreat
open Go.RowKit
set_option linter.unusedVariables false

theorem wrap_ok (T : TypeId) (p : Addr) (name : String) (w : World) : (Builtin.ssaWrapNilChk_ #[T] T #[.pointer (some p), strVal "", strVal name]).run Tryz.prog w = .ok (.pointer (some p)) w := rfl

theorem meth_val {fuel T E f : Nat} {name : String} {i : TypeInfo} {m : Method} {p : Addr} {v : Value} {w : World} (hi : Tryz.prog.info? T = some i) (hm : i.methods.find? (·.name == name) = some m) (hp : m.path = #[]) (hf : m.func = some (f, false)) (hu : Tryz.prog.underlying T = some (.pointer E)) (hl : (loadVar E p).run Tryz.prog w = .ok v w) :
    (method (fuel + 1) T (.pointer (some p)) name).run Tryz.prog w = .ok (f, v) w := by
  have ht : (typeInfo T).run Tryz.prog w = .ok i w := by simp [typeInfo, hi, Sem.run_bind, go_sem]
  have hun : (underlying T).run Tryz.prog w = .ok (.pointer E) w := by simp [underlying, hu, Sem.run_bind, go_sem]
  have hrec : ∀ nm, (receiverAt T (.val (.pointer (some p))) false (some nm)).run Tryz.prog w = .ok v w := fun nm => by
    unfold receiverAt
    rw [Sem.run_bind, hun]
    simp only [Result.andThen]
    have h1 : ((Place.val (Value.pointer (some p))).get T).run Tryz.prog w = .ok (.pointer (some p)) w := rfl
    have h2 : (asAddr (.pointer (some p))).run Tryz.prog w = .ok p w := rfl
    rw [Sem.run_bind, h1]
    simp only [Result.andThen]
    rw [Sem.run_bind, wrap_ok]
    simp only [Result.andThen]
    rw [Sem.run_bind, h2]
    simp only [Result.andThen]
    exact hl
  unfold method
  rw [Sem.run_bind, ht]
  simp only [Result.andThen, hm, hp, hf]
  have hfo : (follow (#[] : Array FieldStep).toList T (.val (.pointer (some p)))).run Tryz.prog w = .ok (T, .val (.pointer (some p))) w := rfl
  rw [Sem.run_bind, hfo]
  simp only [Result.andThen]
  rw [Sem.run_bind]
  rw [if_pos (by rfl), hrec]
  rfl

theorem ent_info (name : String) (f : Nat) (h : (Tryz.prog.info? 180).map (fun i => (i.methods.find? (·.name == name)).map (fun m => (m.path.size, m.func))) = some (some (0, some (f, false)))) :
    ∃ i m, Tryz.prog.info? 180 = some i ∧ i.methods.find? (·.name == name) = some m ∧ m.path = #[] ∧ m.func = some (f, false) := by
  cases hi : Tryz.prog.info? 180 with
  | none => rw [hi] at h; cases h
  | some i =>
    rw [hi] at h
    simp only [Option.map_some, Option.some.injEq] at h
    cases hm : i.methods.find? (·.name == name) with
    | none => rw [hm] at h; cases h
    | some m =>
      rw [hm] at h
      simp only [Option.map_some, Option.some.injEq, Prod.mk.injEq] at h
      exact ⟨i, m, rfl, hm, Array.eq_empty_of_size_eq_zero h.1, h.2⟩

theorem load_hdr (b o : Nat) (a : Option Addr) (n c : Nat) (w : World) (hc : w.cell? ⟨b, o, none⟩ = some (.slice a n c)) : (loadVar 107 ⟨b, o, none⟩).run Tryz.prog w = .ok (.slice a n c) w := by
  simp [go_sem, hc]

theorem meth_Len (b o : Nat) (a : Option Addr) (n c : Nat) (w : World) (hc : w.cell? ⟨b, o, none⟩ = some (.slice a n c)) : (method 310 180 (.pointer (some ⟨b, o, none⟩)) "Len").run Tryz.prog w = .ok (133, .slice a n c) w := by
  obtain ⟨i, m, h1, h2, h3, h4⟩ := ent_info "Len" 133 (by kernel_rfl)
  exact meth_val h1 h2 h3 h4 Tryz.underlying180 (load_hdr b o a n c w hc)

theorem meth_Less (b o : Nat) (a : Option Addr) (n c : Nat) (w : World) (hc : w.cell? ⟨b, o, none⟩ = some (.slice a n c)) : (method 310 180 (.pointer (some ⟨b, o, none⟩)) "Less").run Tryz.prog w = .ok (134, .slice a n c) w := by
  obtain ⟨i, m, h1, h2, h3, h4⟩ := ent_info "Less" 134 (by kernel_rfl)
  exact meth_val h1 h2 h3 h4 Tryz.underlying180 (load_hdr b o a n c w hc)

theorem meth_Swap (b o : Nat) (a : Option Addr) (n c : Nat) (w : World) (hc : w.cell? ⟨b, o, none⟩ = some (.slice a n c)) : (method 310 180 (.pointer (some ⟨b, o, none⟩)) "Swap").run Tryz.prog w = .ok (135, .slice a n c) w := by
  obtain ⟨i, m, h1, h2, h3, h4⟩ := ent_info "Swap" 135 (by kernel_rfl)
  exact meth_val h1 h2 h3 h4 Tryz.underlying180 (load_hdr b o a n c w hc)

theorem meth_Push (p : Addr) (w : World) : (method 310 180 (.pointer (some p)) "Push").run Tryz.prog w = .ok (145, .pointer (some p)) w := by kernel_rfl
theorem meth_Pop (p : Addr) (w : World) : (method 310 180 (.pointer (some p)) "Pop").run Tryz.prog w = .ok (144, .pointer (some p)) w := by kernel_rfl

/-- The queue's cells. -/
theorem XRep.q_row {l : XL} {st : St} {ex : Ext} {w : World} (hr : XRep l st ex w) {h : Nat} (hq : l.q = some h) :
    ∃ cur, w.heap[h]? = some (.cells cur 178 (0, 0)) ∧ ex.due.length ≤ l.cap ∧ l.cap ≤ maxLen ∧ cur.size = l.cap * 3 ∧ cur.toList.take (ex.due.length * 3) = duCells l ex.due := by
  have h2 := hr.qu.2
  have hv : ∀ n, qval l n = .slice (some ⟨h, 0, none⟩) n l.cap := fun n => by unfold qval; rw [hq]
  rw [hv] at h2
  rcases h2 with ⟨e, _⟩ | ⟨g, cap, cur, e, _, hg, hn, hm, hs, hx⟩
  · cases e
  · cases e
    exact ⟨cur, hg, hn, hm, hs, hx⟩

theorem XRep.q_some {l : XL} {st : St} {ex : Ext} {w : World} (hr : XRep l st ex w) (hd : 0 < ex.due.length) : ∃ h, l.q = some h := by
  cases hq : l.q with
  | some h => exact ⟨h, rfl⟩
  | none =>
    have h2 := hr.qu.2
    have hv : ∀ n, qval l n = .slice none 0 0 := fun n => by unfold qval; rw [hq]
    rw [hv] at h2
    rcases h2 with ⟨_, e⟩ | ⟨g, cap, cur, e, _⟩
    · omega
    · cases e

theorem XRep.q_cell {l : XL} {st : St} {ex : Ext} {w : World} (hr : XRep l st ex w) {h : Nat} (hq : l.q = some h) (i : Nat) (v : Value) (hv : (duCells l ex.due)[i]? = some v) :
    w.cell? ⟨h, i, none⟩ = some v ∧ w.frozen? ⟨h, i, none⟩ = false := by
  obtain ⟨cur, hg, hn, _, hs, hx⟩ := hr.q_row hq
  rw [← hx] at hv
  have hi : i < ex.due.length * 3 := by
    rcases Nat.lt_or_ge i (ex.due.length * 3) with h | h
    · exact h
    · rw [List.getElem?_eq_none (by rw [List.length_take]; omega)] at hv; cases hv
  rw [List.getElem?_take_of_lt hi, Array.getElem?_toList] at hv
  constructor
  · simp [World.cell?, hg, hv]
  · simp [World.frozen?, hg]

theorem xenc_q (l : XL) (st : St) (ex : Ext) (q : Option Nat) (cap : Nat) (ds : List Du) (j : Nat) (hj : j < 11) (hne : j ≠ 3) : xenc { l with q := q, cap := cap } st { ex with due := ds } j = xenc l st ex j := by
  rcases eleven hj with rfl | rfl | rfl | rfl | rfl | rfl | rfl | rfl | rfl | rfl | rfl <;> first | rfl | exact absurd rfl hne

theorem blk_q (l : XL) (q : Option Nat) (cap : Nat) (j : Nat) : ({ l with q := q, cap := cap } : XL).blk j = l.blk j := by
  unfold XL.blk
  split <;> rfl

/-- The queue has turned. -/
theorem XRep.requeue {l : XL} {st : St} {ex : Ext} {w w' : World} (hr : XRep l st ex w) (q : Option Nat) (cap : Nat) (ds : List Du) (hk : Kept (fun k => k = l.ck ∨ l.q = some k) w w')
    (c0 : w'.cell? ⟨l.ck, 0, none⟩ = some (.int .i64 ex.now)) (c1 : w'.cell? ⟨l.ck, 1, none⟩ = some (qval { l with q := q, cap := cap } ds.length)) (hf : ∀ j, j < 2 → w'.frozen? ⟨l.ck, j, none⟩ = false)
    (hrow : w'.ownsRow 0 178 3 (qval { l with q := q, cap := cap } ds.length) ds.length (duCells l ds)) (hq : ∀ h, q = some h → l.q = some h ∨ w.heap.size ≤ h) :
    XRep { l with q := q, cap := cap } st { ex with due := ds } w' := by
  refine ⟨fun j hj => ?_, fun i j hi hj e => ?_, hrow, fun h hh j hj => ?_⟩
  · rw [blk_q]
    by_cases e : j = 3
    · subst e
      intro i hi
      have hi2 : i < 2 := hi
      have : i = 0 ∨ i = 1 := by omega
      rcases this with rfl | rfl
      · exact ⟨c0, hf 0 (by omega)⟩
      · exact ⟨c1, hf 1 (by omega)⟩
    · rw [xenc_q l st ex q cap ds j hj e]
      refine (hr.all j hj).kept hk (hr.lt (Or.inl ⟨j, hj, rfl⟩)) (fun x => ?_)
      rcases x with x | x
      · exact e (hr.inj j 3 hj (by omega) x)
      · exact hr.qa _ x j hj rfl
  · rw [blk_q, blk_q] at e
    exact hr.inj i j hi hj e
  · rw [blk_q]
    rcases hq h hh with x | x
    · exact hr.qa h x j hj
    · intro e
      have := hr.lt (k := l.blk j) (Or.inl ⟨j, hj, rfl⟩)
      omega

/-- Which of two is nearer. -/
def lessB (a b : Du) : Bool := if a.at_ = b.at_ then decide (duTurn a < duTurn b) else decide (a.at_ < b.at_)

set_option maxHeartbeats 400000 in
theorem eLen_any (a : Option Addr) (n c : Nat) (w : World) (hn : n ≤ maxLen) :
    Calls Tryz.prog 133 #[.slice a n c] w fun e w' => e = .returned (.int .i64 n) ∧ w' = w := by
  unfold maxLen at hn
  go_enter Tryz.func133, Tryz.ntmps133
  go_wp2
  go_ret
  exact ⟨rfl, rfl⟩

set_option maxHeartbeats 400000 in
theorem eLess_10 {l : XL} {st : St} {ex : Ext} {w : World} (hr : XRep l st ex w) {h : Nat} (hq : l.q = some h) {d0 d1 : Du} (hd : ex.due = [d0, d1]) :
    Calls Tryz.prog 134 #[.slice (some ⟨h, 0, none⟩) 2 l.cap, .int .i64 1, .int .i64 0] w fun e w' => e = .returned (.bool (lessB d1 d0)) ∧ ∃ n, w' = w.drewN n := by
  have q1 := (hr.q_cell hq 1 _ (by rw [hd]; rfl)).1
  have q2 := (hr.q_cell hq 2 _ (by rw [hd]; rfl)).1
  have q4 := (hr.q_cell hq 4 _ (by rw [hd]; rfl)).1
  have q5 := (hr.q_cell hq 5 _ (by rw [hd]; rfl)).1
  by_cases he : d1.at_ = d0.at_
  · have HF : Hid (lessB d1 d0 = decide (duTurn d1 < duTurn d0)) := by unfold Hid lessB; rw [if_pos he]
    have hn : (d1.at_ != d0.at_) = false := by rw [he]; simp
    clear he
    go_enter Tryz.func134, Tryz.ntmps134
    go_wp2
    go_quiet (fail)
    go_wp2
    go_quiet (fail)
    go_wp2
    go_ret
    exact ⟨ret_bool HF.out.symm, _, World.drewN_drewN _ _ _⟩
  · have HF : Hid (lessB d1 d0 = decide (d1.at_ < d0.at_)) := by unfold Hid lessB; rw [if_neg he]
    have hn : (d1.at_ != d0.at_) = true := by rw [bne_iff_ne]; exact he
    clear he
    go_enter Tryz.func134, Tryz.ntmps134
    go_wp2
    go_quiet (fail)
    go_wp2
    go_quiet (fail)
    go_wp2
    go_ret
    exact ⟨ret_bool HF.out.symm, _, World.drewN_drewN _ _ _⟩

end Go.Proofs.YtikdbpphbdbdnaaGreat

/- The queue: two things change places; the last is taken out; one is put behind. -/
namespace Go.Proofs.YtikdbpphbdbdnaaGreat
open Go.RowKit
set_option linter.unusedVariables false
set_option linter.unusedSimpArgs false

/-- The cells of a queue of two. -/
theorem XRep.q_two {l : XL} {st : St} {ex : Ext} {w : World} (hr : XRep l st ex w) {h : Nat} (hq : l.q = some h) {d0 d1 : Du} (hd : ex.due = [d0, d1]) :
    (w.cell? ⟨h, 0, none⟩ = some (duWhat l d0) ∧ w.cell? ⟨h, 1, none⟩ = some (.int .i64 d0.at_) ∧ w.cell? ⟨h, 2, none⟩ = some (.int .i64 (duTurn d0))) ∧ (w.cell? ⟨h, 3, none⟩ = some (duWhat l d1) ∧ w.cell? ⟨h, 4, none⟩ = some (.int .i64 d1.at_) ∧ w.cell? ⟨h, 5, none⟩ = some (.int .i64 (duTurn d1))) ∧
      (w.frozen? ⟨h, 0, none⟩ = false ∧ w.frozen? ⟨h, 1, none⟩ = false ∧ w.frozen? ⟨h, 2, none⟩ = false) ∧ (w.frozen? ⟨h, 3, none⟩ = false ∧ w.frozen? ⟨h, 4, none⟩ = false ∧ w.frozen? ⟨h, 5, none⟩ = false) := by
  have c0 := hr.q_cell hq 0 _ (by rw [hd]; rfl)
  have c1 := hr.q_cell hq 1 _ (by rw [hd]; rfl)
  have c2 := hr.q_cell hq 2 _ (by rw [hd]; rfl)
  have c3 := hr.q_cell hq 3 _ (by rw [hd]; rfl)
  have c4 := hr.q_cell hq 4 _ (by rw [hd]; rfl)
  have c5 := hr.q_cell hq 5 _ (by rw [hd]; rfl)
  exact ⟨⟨c0.1, c1.1, c2.1⟩, ⟨c3.1, c4.1, c5.1⟩, ⟨c0.2, c1.2, c2.2⟩, ⟨c3.2, c4.2, c5.2⟩⟩

/-- The cells of a queue of one. -/
theorem XRep.q_one {l : XL} {st : St} {ex : Ext} {w : World} (hr : XRep l st ex w) {h : Nat} (hq : l.q = some h) {d0 : Du} (hd : ex.due = [d0]) :
    (w.cell? ⟨h, 0, none⟩ = some (duWhat l d0) ∧ w.cell? ⟨h, 1, none⟩ = some (.int .i64 d0.at_) ∧ w.cell? ⟨h, 2, none⟩ = some (.int .i64 (duTurn d0))) ∧
      (w.frozen? ⟨h, 0, none⟩ = false ∧ w.frozen? ⟨h, 1, none⟩ = false ∧ w.frozen? ⟨h, 2, none⟩ = false) := by
  have c0 := hr.q_cell hq 0 _ (by rw [hd]; rfl)
  have c1 := hr.q_cell hq 1 _ (by rw [hd]; rfl)
  have c2 := hr.q_cell hq 2 _ (by rw [hd]; rfl)
  exact ⟨⟨c0.1, c1.1, c2.1⟩, ⟨c0.2, c1.2, c2.2⟩⟩

theorem XRep.c_q {l : XL} {st : St} {ex : Ext} {w : World} (hr : XRep l st ex w) {h : Nat} (hq : l.q = some h) {n : Nat} (hn : ex.due.length = n) : w.cell? ⟨l.ck, 1, none⟩ = some (.slice (some ⟨h, 0, none⟩) n l.cap) := by
  have h1 := hr.c_que
  rw [hn] at h1
  unfold qval at h1
  rw [hq] at h1
  exact h1

/-- Cells of a block after stores into it, by the row. -/
theorem row_put {w : World} {h : Nat} {cur : Array Value} {T : TypeId} (hg : w.heap[h]? = some (.cells cur T (0, 0))) (i : Nat) (v : Value) (hi : i < cur.size) : (w.setCell ⟨h, i, none⟩ v).heap[h]? = some (.cells (cur.setIfInBounds i v) T (0, 0)) := by
  simp only [World.setCell]
  rw [Array.getElem?_modify]
  simp [hg]

theorem XRep.q_turn {l : XL} {st : St} {ex : Ext} {w w' : World} (hr : XRep l st ex w) {h : Nat} (hq : l.q = some h) (hk : Kept (fun k => k = h) w w') (cur : Array Value) (hg : w'.heap[h]? = some (.cells cur 178 (0, 0))) (hs : cur.size = l.cap * 3) (ds : List Du) (hl : ds.length = ex.due.length) (hx : cur.toList.take (ds.length * 3) = duCells l ds) : XRep l st { ex with due := ds } w' := by
  have hne : l.ck ≠ h := hr.qa h hq 3 (by omega)
  have hlt := hr.ck_q
  have cc : ∀ j, w'.cell? ⟨l.ck, j, none⟩ = w.cell? ⟨l.ck, j, none⟩ := fun j => hk.cell hlt hne j
  have ff : ∀ j, w'.frozen? ⟨l.ck, j, none⟩ = w.frozen? ⟨l.ck, j, none⟩ := fun j => hk.frozen hlt hne j
  have hv : ∀ n, qval l n = .slice (some ⟨h, 0, none⟩) n l.cap := fun n => by unfold qval; rw [hq]
  obtain ⟨_, _, hn, hm, _, _⟩ := hr.q_row hq
  have hlen : (duCells l ds).length = ds.length * 3 := by
    unfold duCells
    induction ds with
    | nil => rfl
    | cons a r ih =>
      have e : ∀ r : List Du, (r.flatMap (duCell l)).length = r.length * 3 := fun r => by
        induction r with
        | nil => rfl
        | cons b r ih2 => simp [List.flatMap_cons, ih2, duCell]; omega
      exact e _
  exact hr.requeue l.q l.cap ds (hk.wide (fun k hk2 => Or.inr (by rw [hk2]; exact hq))) (by rw [cc]; exact hr.c_now) (by rw [cc, hl]; exact hr.c_que)
    (fun j hj => by
      rw [ff]
      have : j = 0 ∨ j = 1 := by omega
      rcases this with rfl | rfl
      · exact hr.f_now
      · exact hr.f_que)
    ⟨hlen, Or.inr ⟨h, l.cap, cur, hv _, Nat.zero_le _, hg, by omega, hm, hs, hx⟩⟩ (fun x hx2 => Or.inl hx2)

theorem set6 (cur : Array Value) (h : 6 ≤ cur.size) (a b c d e f : Value) : ((((((cur.setIfInBounds 0 a).setIfInBounds 1 b).setIfInBounds 2 c).setIfInBounds 3 d).setIfInBounds 4 e).setIfInBounds 5 f).toList.take 6 = [a, b, c, d, e, f] := by
  obtain ⟨xs⟩ := cur
  simp only [Array.toList_setIfInBounds]
  match xs, h with
  | x0 :: x1 :: x2 :: x3 :: x4 :: x5 :: r, _ => rfl

theorem set33 (cur : Array Value) (h : 3 ≤ cur.size) (a b c : Value) : ((((((cur.setIfInBounds 0 a).setIfInBounds 1 b).setIfInBounds 2 c).setIfInBounds 0 a).setIfInBounds 1 b).setIfInBounds 2 c).toList.take 3 = [a, b, c] := by
  obtain ⟨xs⟩ := cur
  simp only [Array.toList_setIfInBounds]
  match xs, h with
  | x0 :: x1 :: x2 :: r, _ => rfl

theorem XRep.q_swap {l : XL} {st : St} {ex : Ext} {w : World} (hr : XRep l st ex w) {h : Nat} (hq : l.q = some h) {d0 d1 : Du} (hd : ex.due = [d0, d1]) :
    XRep l st { ex with due := [d1, d0] } ((((((w.setCell ⟨h, 0, none⟩ (duWhat l d1)).setCell ⟨h, 1, none⟩ (.int .i64 d1.at_)).setCell ⟨h, 2, none⟩ (.int .i64 (duTurn d1))).setCell ⟨h, 3, none⟩ (duWhat l d0)).setCell ⟨h, 4, none⟩ (.int .i64 d0.at_)).setCell ⟨h, 5, none⟩ (.int .i64 (duTurn d0))) := by
  obtain ⟨cur, hg, hn, hm, hs, hx⟩ := hr.q_row hq
  rw [hd] at hn
  have hn2 : 2 ≤ l.cap := hn
  refine hr.q_turn hq ?_ _ (row_put (row_put (row_put (row_put (row_put (row_put hg 0 _ (by omega)) 1 _ (by simp; omega)) 2 _ (by simp; omega)) 3 _ (by simp; omega)) 4 _ (by simp; omega)) 5 _ (by simp; omega)) (by simp [hs]) [d1, d0] (by rw [hd]; rfl) (set6 cur (by omega) _ _ _ _ _ _)
  exact ((((((Kept.refl (fun k => k = h) w).setCell (b := h) (Or.inl rfl) _).setCell (b := h) (Or.inl rfl) _).setCell (b := h) (Or.inl rfl) _).setCell (b := h) (Or.inl rfl) _).setCell (b := h) (Or.inl rfl) _).setCell (b := h) (Or.inl rfl) _

theorem XRep.q_stay {l : XL} {st : St} {ex : Ext} {w : World} (hr : XRep l st ex w) {h : Nat} (hq : l.q = some h) {d0 : Du} (hd : ex.due = [d0]) :
    XRep l st ex ((((((w.setCell ⟨h, 0, none⟩ (duWhat l d0)).setCell ⟨h, 1, none⟩ (.int .i64 d0.at_)).setCell ⟨h, 2, none⟩ (.int .i64 (duTurn d0))).setCell ⟨h, 0, none⟩ (duWhat l d0)).setCell ⟨h, 1, none⟩ (.int .i64 d0.at_)).setCell ⟨h, 2, none⟩ (.int .i64 (duTurn d0))) := by
  obtain ⟨cur, hg, hn, hm, hs, hx⟩ := hr.q_row hq
  rw [hd] at hn
  have hn2 : 1 ≤ l.cap := hn
  have h2 := hr.q_turn hq (((((((Kept.refl (fun k => k = h) w).setCell (b := h) (j := 0) (Or.inl rfl) (duWhat l d0)).setCell (b := h) (j := 1) (Or.inl rfl) (.int .i64 d0.at_)).setCell (b := h) (j := 2) (Or.inl rfl) (.int .i64 (duTurn d0))).setCell (b := h) (j := 0) (Or.inl rfl) (duWhat l d0)).setCell (b := h) (j := 1) (Or.inl rfl) (.int .i64 d0.at_)).setCell (b := h) (j := 2) (Or.inl rfl) (.int .i64 (duTurn d0))) _ (row_put (row_put (row_put (row_put (row_put (row_put hg 0 _ (by omega)) 1 _ (by simp <;> omega)) 2 _ (by simp <;> omega)) 0 _ (by simp <;> omega)) 1 _ (by simp <;> omega)) 2 _ (by simp <;> omega)) (by simp [hs]) [d0] (by rw [hd] <;> rfl) (set33 cur (by omega) _ _ _)
  exact h2.as rfl (by rw [← hd])

theorem Kept.qb {l : XL} {a w : World} (h : Kept l.own a w) {b : Nat} (hq : l.q = some b) (j : Nat) (u : Value) : Kept l.own a (w.setCell ⟨b, j, none⟩ u) := h.setCell (Or.inl (Or.inr hq)) u

theorem duWhat_iface (l : XL) (d : Du) : ∃ t a, duWhat l d = .iface t (.pointer (some a)) := by
  unfold duWhat
  split
  · exact ⟨_, _, rfl⟩
  · exact ⟨_, _, rfl⟩

set_option maxHeartbeats 1000000 in
theorem eSwap_01 {l : XL} {st : St} {ex : Ext} {w : World} (hr : XRep l st ex w) {h : Nat} (hq : l.q = some h) {d0 d1 : Du} (hd : ex.due = [d0, d1]) :
    Calls Tryz.prog 135 #[.slice (some ⟨h, 0, none⟩) 2 l.cap, .int .i64 0, .int .i64 1] w fun e w' => e = .returned (.tuple #[]) ∧ XRep l st { ex with due := [d1, d0] } w' ∧ Kept l.own w w' := by
  obtain ⟨⟨c0, c1, c2⟩, ⟨c3, c4, c5⟩, ⟨f0, f1, f2⟩, ⟨f3, f4, f5⟩⟩ := hr.q_two hq hd
  obtain ⟨t0, p0, e0⟩ := duWhat_iface l d0
  obtain ⟨t1, p1, e1⟩ := duWhat_iface l d1
  rw [e0] at c0
  rw [e1] at c3
  have HE0 : Hid _ := e0
  have HE1 : Hid _ := e1
  clear e0 e1
  go_enter Tryz.func135, Tryz.ntmps135
  go_wp2
  go_region
  all_goals
    go_wp2
    (first | go_end0 | refine bodyPost_ret (results_none rfl _ _ _) rfl ?_)
    refine ⟨rfl, ?_, ?_⟩
    · apply XRep.drew
      have h2 := hr.q_swap hq hd
      rw [HE0.out, HE1.out] at h2
      exact h2
    · apply Kept.drew
      exact ((((((Kept.refl _ w).qb hq _ _).qb hq _ _).qb hq _ _).qb hq _ _).qb hq _ _).qb hq _ _

set_option maxHeartbeats 1000000 in
theorem eSwap_00 {l : XL} {st : St} {ex : Ext} {w : World} (hr : XRep l st ex w) {h : Nat} (hq : l.q = some h) {d0 : Du} (hd : ex.due = [d0]) :
    Calls Tryz.prog 135 #[.slice (some ⟨h, 0, none⟩) 1 l.cap, .int .i64 0, .int .i64 0] w fun e w' => e = .returned (.tuple #[]) ∧ XRep l st ex w' ∧ Kept l.own w w' := by
  obtain ⟨⟨c0, c1, c2⟩, ⟨f0, f1, f2⟩⟩ := hr.q_one hq hd
  obtain ⟨t0, p0, e0⟩ := duWhat_iface l d0
  rw [e0] at c0
  have HE0 : Hid _ := e0
  clear e0
  go_enter Tryz.func135, Tryz.ntmps135
  go_wp2
  go_region
  all_goals
    go_wp2
    (first | go_end0 | refine bodyPost_ret (results_none rfl _ _ _) rfl ?_)
    refine ⟨rfl, ?_, ?_⟩
    · apply XRep.drew
      have h2 := hr.q_stay hq hd
      rw [HE0.out] at h2
      exact h2
    · apply Kept.drew
      exact ((((((Kept.refl _ w).qb hq _ _).qb hq _ _).qb hq _ _).qb hq _ _).qb hq _ _).qb hq _ _

/-- The header is set to fewer. -/
theorem XRep.q_cut {l : XL} {st : St} {ex : Ext} {w : World} (hr : XRep l st ex w) {h : Nat} (hq : l.q = some h) (ds : List Du) {d : Du} (hd : ex.due = ds ++ [d]) : XRep l st { ex with due := ds } (w.setCell ⟨l.ck, 1, none⟩ (.slice (some ⟨h, 0, none⟩) ds.length l.cap)) := by
  have hne : h ≠ l.ck := fun e => hr.qa h hq 3 (by omega) e.symm
  have hv : ∀ n, qval l n = .slice (some ⟨h, 0, none⟩) n l.cap := fun n => by unfold qval; rw [hq]
  obtain ⟨cur, hg, hn, hm, hs, hx⟩ := hr.q_row hq
  have hll : ex.due.length = ds.length + 1 := by rw [hd]; simp
  have hlen : (duCells l ds).length = ds.length * 3 := by
    unfold duCells
    have e : ∀ r : List Du, (r.flatMap (duCell l)).length = r.length * 3 := fun r => by
      induction r with
      | nil => rfl
      | cons b r ih2 => simp [List.flatMap_cons, ih2, duCell]; omega
    exact e _
  have hcells : duCells l ex.due = duCells l ds ++ duCell l d := by rw [hd]; unfold duCells; rw [List.flatMap_append]; simp
  refine hr.requeue l.q l.cap ds ((Kept.refl _ w).setCell (Or.inl (Or.inl rfl)) _) ?_ ?_ (fun j hj => ?_) ⟨hlen, Or.inr ⟨h, l.cap, cur, hv _, Nat.zero_le _, ?_, by omega, hm, hs, ?_⟩⟩ (fun x hx2 => Or.inl hx2)
  · rw [World.cell?_setCell_other _ _ _ _ (by intro x; have := congrArg Addr.off x; simp at this)]; exact hr.c_now
  · rw [World.cell?_setCell_same _ _ _ hr.c_que]; rw [hv]
  · rw [World.frozen?_setCell]
    have : j = 0 ∨ j = 1 := by omega
    rcases this with rfl | rfl
    · exact hr.f_now
    · exact hr.f_que
  · rw [Below.heap_setCell _ _ _ _ hne]; exact hg
  · rw [hcells, hll] at hx
    have h3 : cur.toList.take (ds.length * 3) = ((cur.toList.take ((ds.length + 1) * 3)).take (ds.length * 3)) := by rw [List.take_take, Nat.min_eq_left (by omega)]
    rw [h3, hx, ← hlen, List.take_left]

/-- What stands in the queue, as one value. -/
def duVal (l : XL) (d : Du) : Value := .iface 178 (.agg #[duWhat l d, .int .i64 d.at_, .int .i64 (duTurn d)])

set_option maxRecDepth 100000 in
set_option maxHeartbeats 1000000 in
theorem ePop_1 {l : XL} {st : St} {ex : Ext} {w : World} (hr : XRep l st ex w) {d0 : Du} (hd : ex.due = [d0]) :
    Calls Tryz.prog 144 #[.pointer (some ⟨l.ck, 1, none⟩)] w fun e w' => e = .returned (duVal l d0) ∧ XRep l st { ex with due := [] } w' ∧ Kept l.own w w' := by
  obtain ⟨h, hq⟩ := hr.q_some (by rw [hd]; simp)
  obtain ⟨⟨c0, c1, c2⟩, ⟨f0, f1, f2⟩⟩ := hr.q_one hq hd
  have c9 := hr.c_q hq (n := 1) (by rw [hd]; rfl)
  have f9 := hr.f_que
  obtain ⟨t0, p0, e0⟩ := duWhat_iface l d0
  rw [e0] at c0
  have HE0 : Hid _ := e0
  clear e0
  have hlt := hr.ck_q
  have hlh : h < w.heap.size := lt_of_cell c0
  obtain ⟨_, _, hcp, _, _, _⟩ := hr.q_row hq
  have hcp1 : 1 ≤ l.cap := by rw [hd] at hcp; exact hcp
  have HF : Hid _ := fun W (hW : XRep l st ex W) => hW.q_cut hq [] (d := d0) hd
  clear hcp
  go_enter Tryz.func144, Tryz.ntmps144
  go_wp2
  go_ret
  exact ⟨by unfold duVal; rw [HE0.out]; rfl, (HF.out _ hr).alloc _, ((Kept.refl _ w).ck _ _).alloc _⟩

set_option maxRecDepth 100000 in
set_option maxHeartbeats 1000000 in
theorem ePop_2 {l : XL} {st : St} {ex : Ext} {w : World} (hr : XRep l st ex w) {d0 d1 : Du} (hd : ex.due = [d0, d1]) :
    Calls Tryz.prog 144 #[.pointer (some ⟨l.ck, 1, none⟩)] w fun e w' => e = .returned (duVal l d1) ∧ XRep l st { ex with due := [d0] } w' ∧ Kept l.own w w' := by
  obtain ⟨h, hq⟩ := hr.q_some (by rw [hd]; simp)
  obtain ⟨⟨c0, c1, c2⟩, ⟨c3, c4, c5⟩, ⟨f0, f1, f2⟩, ⟨f3, f4, f5⟩⟩ := hr.q_two hq hd
  have c9 := hr.c_q hq (n := 2) (by rw [hd]; rfl)
  have f9 := hr.f_que
  obtain ⟨t0, p0, e0⟩ := duWhat_iface l d1
  rw [e0] at c3
  have HE0 : Hid _ := e0
  clear e0
  have hlt := hr.ck_q
  have hlh : h < w.heap.size := lt_of_cell c3
  obtain ⟨_, _, hcp, _, _, _⟩ := hr.q_row hq
  have hcp1 : 2 ≤ l.cap := by rw [hd] at hcp; exact hcp
  have HF : Hid _ := fun W (hW : XRep l st ex W) => hW.q_cut hq [d0] (d := d1) hd
  clear hcp
  go_enter Tryz.func144, Tryz.ntmps144
  go_wp2
  go_ret
  exact ⟨by unfold duVal; rw [HE0.out]; rfl, (HF.out _ hr).alloc _, ((Kept.refl _ w).ck _ _).alloc _⟩

theorem ent_info2 : (Tryz.prog.info? 178).map (fun i => (i.size, i.bytes, i.zero.map (·.cells.size))) = some (3, 32, some 3) := by kernel_rfl

theorem ent_info3 : ∃ i z, Tryz.prog.info? 178 = some i ∧ i.zero = some z ∧ i.size = 3 ∧ i.bytes = 32 ∧ z.cells.size = 3 := by
  have h := ent_info2
  cases hi : Tryz.prog.info? 178 with
  | none => rw [hi] at h; cases h
  | some i =>
    rw [hi] at h
    simp only [Option.map_some, Option.some.injEq, Prod.mk.injEq] at h
    obtain ⟨h1, h2, h3⟩ := h
    cases hz : i.zero with
    | none => rw [hz] at h3; cases h3
    | some z =>
      rw [hz] at h3
      simp only [Option.map_some, Option.some.injEq] at h3
      exact ⟨i, z, rfl, hz, h1, h2, h3⟩

/-- What the board owns behind an append. -/
def Grew (l l' : XL) (w : World) : Prop := ∃ q cap, l' = { l with q := q, cap := cap } ∧ ∀ h, q = some h → l.q = some h ∨ w.heap.size ≤ h

theorem assert_ent (v : Value) (W : World) : (Instr.typeAssert (.iface 178 v) 20 178 false).run Tryz.prog W = .ok v W := by kernel_rfl

theorem cell_three_new (W : World) (a b c : Value) (T : TypeId) : ∀ (j : Nat) (u : Value), [a, b, c][j]? = some u → (W.alloc (.cells #[a, b, c] T)).cell? ((⟨W.heap.size, 0, none⟩ : Addr).add j) = some u := fun j u hu => by
  have hj : j < 3 := by
    rcases Nat.lt_or_ge j 3 with h | h
    · exact h
    · rw [List.getElem?_eq_none (by exact h)] at hu; cases hu
  have : j = 0 ∨ j = 1 ∨ j = 2 := by omega
  rcases this with rfl | rfl | rfl <;> (cases hu; simp [go_sem, Addr.add])

set_option maxRecDepth 100000 in
set_option maxHeartbeats 1000000 in
theorem ePush_any {l : XL} {st : St} {ex : Ext} {w : World} (hr : XRep l st ex w) (d : Du) (hn : ex.due.length ≤ 2) :
    Calls Tryz.prog 145 #[.pointer (some ⟨l.ck, 1, none⟩), duVal l d] w fun e w' => e = .returned (.tuple #[]) ∧ ∃ l', Grew l l' w ∧ XRep l' st { ex with due := ex.due ++ [d] } w' ∧ Kept l.own w w' := by
  obtain ⟨i, z, hi, hz, hsize, hbytes, hzs⟩ := ent_info3
  have c9 := hr.c_que
  have f9 := hr.f_que
  have hown := hr.qu
  have hlt := hr.ck_q
  unfold duVal
  obtain ⟨t0, p0, e0⟩ := duWhat_iface l d
  rw [e0]
  have HE0 : Hid _ := e0
  clear e0
  generalize hQ : qval l ex.due.length = vb at c9 hown
  have HQ : Hid _ := hQ
  clear hQ
  have hlen : ex.due.length + 1 ≤ maxLen := by unfold maxLen; omega
  have hby : (ex.due.length + 1) * 32 ≤ 140737488355328 := by omega
  have hown3 : (w.drew.alloc (.cells #[.iface t0 (.pointer (some p0)), .int .i64 d.at_, .int .i64 (duTurn d)] 178)).ownsRow 0 178 3 vb ex.due.length (duCells l ex.due) := World.ownsRow.alloc (w := w.drew) hown _
  have hta := assert_ent
  have hnews := cell_three_new w.drew (.iface t0 (.pointer (some p0))) (.int .i64 d.at_) (.int .i64 (duTurn d)) 178
  have hvq : vb.ownBlock = l.q := by rw [← HQ.out]; exact qval_block l _
  have hne : vb.ownBlock ≠ some l.ck := fun e => hr.qa l.ck (by rw [← hvq]; exact e) 3 (by omega) rfl
  have hfar : ∀ w4 : World, (w.alloc (.cells #[.iface t0 (.pointer (some p0)), .int .i64 d.at_, .int .i64 (duTurn d)] 178)).drew.grownBy w4 vb.ownBlock → w4.heap[l.ck]? = w.heap[l.ck]? := fun w4 hgr => by
    rw [hgr.block l.ck (by show _ < (w.alloc _).heap.size; rw [World.size_alloc]; omega) (fun h => hne h.symm)]
    exact Below.heap_alloc w _ _ hlt
  have he0 : ∀ w4 : World, (w.alloc (.cells #[.iface t0 (.pointer (some p0)), .int .i64 d.at_, .int .i64 (duTurn d)] 178)).drew.grownBy w4 vb.ownBlock → w4.cell? ⟨l.ck, 1, none⟩ = some vb := fun w4 hgr => by
    rw [World.cell?_of_block (w := w) (a := ⟨l.ck, 1, none⟩) (hfar w4 hgr)]; exact c9
  have hef : ∀ w4 : World, (w.alloc (.cells #[.iface t0 (.pointer (some p0)), .int .i64 d.at_, .int .i64 (duTurn d)] 178)).drew.grownBy w4 vb.ownBlock → w4.frozen? ⟨l.ck, 1, none⟩ = false := fun w4 hgr => by
    rw [World.frozen?_of_block (w := w) (a := ⟨l.ck, 1, none⟩) (hfar w4 hgr)]; exact f9
  have hlq : ∀ k, l.q = some k → k < w.heap.size := fun k hk => hr.lt (Or.inr hk)
  have HFIN : Hid (∀ (w4 : World) (g' cap : Nat), w4.ownsRow 0 178 3 (.slice (some ⟨g', 0, none⟩) (ex.due.length + 1) cap) (ex.due.length + 1) (duCells l ex.due ++ [.iface t0 (.pointer (some p0)), .int .i64 d.at_, .int .i64 (duTurn d)]) →
      (w.alloc (.cells #[.iface t0 (.pointer (some p0)), .int .i64 d.at_, .int .i64 (duTurn d)] 178)).drew.grownBy w4 vb.ownBlock → (vb.ownBlock = some g' ∨ g' = w.heap.size + 1) →
      (∃ l', Grew l l' w ∧ XRep l' st { ex with due := ex.due ++ [d] } (w4.setCell ⟨l.ck, 1, none⟩ (.slice (some ⟨g', 0, none⟩) (ex.due.length + 1) cap)) ∧ Kept l.own w (w4.setCell ⟨l.ck, 1, none⟩ (.slice (some ⟨g', 0, none⟩) (ex.due.length + 1) cap)))) := fun w4 g' cap ho hgr hat => by
    have hgg : g' ≠ l.ck := by
      rintro rfl
      rcases hat with h | h
      · exact hne h
      · omega
    have k4 : Kept (fun k => k = l.ck ∨ l.q = some k) w w4 := ((Kept.refl _ w).alloc (.cells #[.iface t0 (.pointer (some p0)), .int .i64 d.at_, .int .i64 (duTurn d)] 178)).drew.trans ⟨hgr.os, hgr.tape, hgr.output, hgr.size, fun k hk hS => hgr.block k hk (fun e => hS (Or.inr (by rw [← hvq]; exact e.symm)))⟩
    have hq2 : ∀ h, some g' = some h → l.q = some h ∨ w.heap.size ≤ h := fun h e => by
      cases e
      rcases hat with x | x
      · exact Or.inl (by rw [← hvq]; exact x)
      · exact Or.inr (by omega)
    refine ⟨{ l with q := some g', cap := cap }, ⟨some g', cap, rfl, hq2⟩, ?_, ?_⟩
    · refine hr.requeue (some g') cap (ex.due ++ [d]) (k4.setCell (Or.inl (Or.inl rfl)) _) ?_ ?_ (fun j hj => ?_) ?_ hq2
      · rw [World.cell?_setCell_other _ _ _ _ (by intro x; have := congrArg Addr.off x; simp at this), World.cell?_of_block (w := w) (a := ⟨l.ck, 0, none⟩) (hfar w4 hgr)]
        exact hr.c_now
      · rw [World.cell?_setCell_same _ _ _ (he0 w4 hgr)]
        simp [qval]
      · rw [World.frozen?_setCell, World.frozen?_of_block (w := w) (a := ⟨l.ck, j, none⟩) (hfar w4 hgr)]
        have : j = 0 ∨ j = 1 := by omega
        rcases this with rfl | rfl
        · exact hr.f_now
        · exact hr.f_que
      · have e1 : (ex.due ++ [d]).length = ex.due.length + 1 := by simp
        have e2 : duCells l (ex.due ++ [d]) = duCells l ex.due ++ [.iface t0 (.pointer (some p0)), .int .i64 d.at_, .int .i64 (duTurn d)] := by
          unfold duCells
          rw [List.flatMap_append]
          simp [duCell, HE0.out]
        rw [e1, e2]
        exact row_same ho (fun k hk => by
          cases hk
          exact Below.heap_setCell _ _ _ _ hgg)
    · refine (k4.wide (fun k hk => ?_)).setCell (Or.inl (own_ck l)) _
      rcases hk with rfl | hk
      · exact own_ck l
      · exact Or.inr hk
  clear hvq hne hfar hlq
  go_enter Tryz.func145, Tryz.ntmps145
  go_wp2
  go_region_law (refine step_append_lies _ rfl (.tmp 7) (.tmp 10) 107 rfl 0 178 i z 3 32 Tryz.underlying107 hi hz hsize hbytes hzs (by decide) vb ex.due.length (duCells l ex.due) (by simp [Act.eval, Act.put]) hown3 ⟨w.heap.size, 0, none⟩ 1 1 [.iface t0 (.pointer (some p0)), .int .i64 d.at_, .int .i64 (duTurn d)] (by simp [Act.eval, Act.put]) rfl hnews (fun x hx => by simp at hx; rcases hx with rfl | rfl | rfl <;> rfl) (by decide) hlen hby (Nat.zero_le _) (w.heap.size + 1) (by simp) ?_; intro g' cap w4 hown4 hgrow hat hlt4; have e0 := he0 w4 hgrow; have ef := hef w4 hgrow)
  all_goals
    go_wp2
    (first | go_end0 | refine bodyPost_ret (results_none rfl _ _ _) rfl ?_)
    exact ⟨rfl, HFIN.out _ _ _ hown4 hgrow hat⟩

end Go.Proofs.YtikdbpphbdbdnaaGreat

/- The queue: container/heap's Push, Pop and Remove of a list of two at most. -/
namespace Go.Proofs.YtikdbpphbdbdnaaGreat
open Go.RowKit
set_option linter.unusedVariables false

/-- The queue as container/heap sees it. -/
def heapV (l : XL) : Value := .iface 180 (.pointer (some ⟨l.ck, 1, none⟩))

set_option maxRecDepth 100000 in
set_option maxHeartbeats 1000000 in
theorem hup_0 (l : XL) (w : World) :
    Calls Tryz.prog 116 #[.iface 180 (.pointer (some ⟨l.ck, 1, none⟩)), .int .i64 0] w fun e w' => e = .returned (.tuple #[]) ∧ w' = w := by
  go_enter Tryz.func116, Tryz.ntmps116
  go_wp2
  go_loop [1] (fun j => j = .int .i64 0) (fun _ => 0)
  case atStart => exact rfl
  case round =>
    subst hrel
    go_wp2
    (first | go_end0 | refine bodyPost_ret (results_none rfl _ _ _) rfl ?_)
    exact ⟨rfl, rfl⟩

set_option maxRecDepth 100000 in
set_option maxHeartbeats 1000000 in
theorem hup_1 {l : XL} {st : St} {ex : Ext} {w : World} (hr : XRep l st ex w) {d0 d1 : Du} (hd : ex.due = [d0, d1]) :
    Calls Tryz.prog 116 #[.iface 180 (.pointer (some ⟨l.ck, 1, none⟩)), .int .i64 1] w fun e w' => e = .returned (.tuple #[]) ∧ XRep l st { ex with due := if lessB d1 d0 = true then [d1, d0] else [d0, d1] } w' ∧ Kept l.own w w' := by
  obtain ⟨h, hq⟩ := hr.q_some (by rw [hd]; simp)
  have c9 := hr.c_q hq (n := 2) (by rw [hd]; rfl)
  have hmL := meth_Less l.ck 1 _ _ _ w c9
  have hnot : ∀ (x : Bool) (w : World), (Op.unary .not (.bool x)).run Tryz.prog w = .ok (.bool (!x)) w := fun _ _ => rfl
  have HL : Hid _ := eLess_10 hr hq hd
  cases hb : lessB d1 d0
  · have HB : Hid _ := hb
    have HF : Hid (XRep l st { ex with due := [d0, d1] } w) := hr.as rfl (by rw [← hd])
    clear hb
    go_enter Tryz.func116, Tryz.ntmps116
    go_wp2
    go_loop [1] (fun j => j = .int .i64 1) (fun _ => 0)
    case atStart => exact rfl
    case round =>
      subst hrel
      go_wp2_with fail
      refine Calls.mono HL.out ?_
      rintro e w1 ⟨rfl, n, rfl⟩
      rw [HB.out]
      go_wp2
      (first | go_end0 | refine bodyPost_ret (results_none rfl _ _ _) rfl ?_)
      exact ⟨rfl, HF.out.drewN _, (Kept.refl _ _).drewN _⟩
  · have HB : Hid _ := hb
    have HS : Hid (∀ n, Calls Tryz.prog 135 #[.slice (some ⟨h, 0, none⟩) 2 l.cap, .int .i64 0, .int .i64 1] (w.drewN n) fun e w' => e = .returned (.tuple #[]) ∧ XRep l st { ex with due := [d1, d0] } w' ∧ Kept l.own w w') := fun n => (eSwap_01 (hr.drewN n) hq hd).mono fun e w' ⟨h1, h2, h3⟩ => ⟨h1, h2, ((Kept.refl _ w).drewN n).trans h3⟩
    have hmS : ∀ n, _ := fun n => meth_Swap l.ck 1 _ _ _ (w.drewN n) ((hr.drewN n).c_q hq (n := 2) (by rw [hd]; rfl))
    clear hb
    go_enter Tryz.func116, Tryz.ntmps116
    go_wp2
    go_loopw [1] (fun j wx => (j = .int .i64 1 ∧ wx = w) ∨ (j = .int .i64 0 ∧ XRep l st { ex with due := [d1, d0] } wx ∧ Kept l.own w wx)) (fun j _ => (intOf j).toNat)
    case atStart => exact Or.inl ⟨rfl, rfl⟩
    case round =>
      rcases hrel with ⟨rfl, rfl⟩ | ⟨rfl, hx, kx⟩
      · go_wp2_with fail
        refine Calls.mono HL.out ?_
        rintro e w1 ⟨rfl, n, rfl⟩
        rw [HB.out]
        go_wp2_with fail
        refine Calls.mono (HS.out n) ?_
        rintro e w1 ⟨rfl, hx, kx⟩
        go_wp2
        exact ⟨Or.inr ⟨rfl, hx, kx⟩, by decide⟩
      · go_wp2
        (first | go_end0 | refine bodyPost_ret (results_none rfl _ _ _) rfl ?_)
        exact ⟨rfl, hx, kx⟩

set_option maxRecDepth 100000 in
set_option maxHeartbeats 1000000 in
theorem hdown_any (v : Value) (n : Int) (hn : n ≤ 1) (w : World) :
    Calls Tryz.prog 113 #[v, .int .i64 0, .int .i64 n] w fun e w' => e = .returned (.bool false) ∧ w' = w := by
  go_enter Tryz.func113, Tryz.ntmps113
  go_wp2
  go_loop [7] (fun j => j = .int .i64 0) (fun _ => 0)
  case atStart => exact rfl
  case round =>
    subst hrel
    go_wp2
    go_ret
    exact ⟨rfl, rfl⟩

set_option maxRecDepth 100000 in
set_option maxHeartbeats 1000000 in
theorem hRemove_1 {l : XL} {st : St} {ex : Ext} {w : World} (hr : XRep l st ex w) {d0 : Du} (hd : ex.due = [d0]) :
    Calls Tryz.prog 114 #[.iface 180 (.pointer (some ⟨l.ck, 1, none⟩)), .int .i64 0] w fun e w' => e = .returned (duVal l d0) ∧ XRep l st { ex with due := [] } w' ∧ Kept l.own w w' := by
  obtain ⟨h, hq⟩ := hr.q_some (by rw [hd]; simp)
  have c9 := hr.c_q hq (n := 1) (by rw [hd]; rfl)
  have hm1 := meth_Len l.ck 1 _ _ _ w c9
  have hm2 := meth_Pop
  go_enter Tryz.func114, Tryz.ntmps114
  go_wp2_with fail
  refine (eLen_any _ _ _ _ (by unfold maxLen; omega)).mono ?_
  rintro e w1 ⟨rfl, rfl⟩
  go_wp2_with fail
  refine (ePop_1 hr hd).mono ?_
  rintro e w1 ⟨rfl, hr1, k1⟩
  go_wp2
  go_ret
  exact ⟨rfl, hr1, k1⟩

set_option maxRecDepth 100000 in
set_option maxHeartbeats 1000000 in
theorem hRemove_21 {l : XL} {st : St} {ex : Ext} {w : World} (hr : XRep l st ex w) {d0 d1 : Du} (hd : ex.due = [d0, d1]) :
    Calls Tryz.prog 114 #[.iface 180 (.pointer (some ⟨l.ck, 1, none⟩)), .int .i64 1] w fun e w' => e = .returned (duVal l d1) ∧ XRep l st { ex with due := [d0] } w' ∧ Kept l.own w w' := by
  obtain ⟨h, hq⟩ := hr.q_some (by rw [hd]; simp)
  have c9 := hr.c_q hq (n := 2) (by rw [hd]; rfl)
  have hm1 := meth_Len l.ck 1 _ _ _ w c9
  have hm2 := meth_Pop
  go_enter Tryz.func114, Tryz.ntmps114
  go_wp2_with fail
  refine (eLen_any _ _ _ _ (by unfold maxLen; omega)).mono ?_
  rintro e w1 ⟨rfl, rfl⟩
  go_wp2_with fail
  refine (ePop_2 hr hd).mono ?_
  rintro e w1 ⟨rfl, hr1, k1⟩
  go_wp2
  go_ret
  exact ⟨rfl, hr1, k1⟩

set_option maxRecDepth 100000 in
set_option maxHeartbeats 1000000 in
theorem hRemove_20 {l : XL} {st : St} {ex : Ext} {w : World} (hr : XRep l st ex w) {d0 d1 : Du} (hd : ex.due = [d0, d1]) :
    Calls Tryz.prog 114 #[.iface 180 (.pointer (some ⟨l.ck, 1, none⟩)), .int .i64 0] w fun e w' => e = .returned (duVal l d0) ∧ XRep l st { ex with due := [d1] } w' ∧ Kept l.own w w' := by
  obtain ⟨h, hq⟩ := hr.q_some (by rw [hd]; simp)
  have c9 := hr.c_q hq (n := 2) (by rw [hd]; rfl)
  have hm1 := meth_Len l.ck 1 _ _ _ w c9
  have hm3 := meth_Swap l.ck 1 _ _ _ w c9
  have hm2 := meth_Pop
  have hnot : ∀ (x : Bool) (w : World), (Op.unary .not (.bool x)).run Tryz.prog w = .ok (.bool (!x)) w := fun _ _ => rfl
  go_enter Tryz.func114, Tryz.ntmps114
  go_wp2_with fail
  refine (eLen_any _ _ _ _ (by unfold maxLen; omega)).mono ?_
  rintro e w1 ⟨rfl, rfl⟩
  go_wp2_with fail
  refine (eSwap_01 hr hq hd).mono ?_
  rintro e w1 ⟨rfl, hr1, k1⟩
  go_wp2_with fail
  refine (hdown_any _ 1 (by omega) _).mono ?_
  rintro e w2 ⟨rfl, rfl⟩
  go_wp2_with fail
  refine (hup_0 l _).mono ?_
  rintro e w2 ⟨rfl, rfl⟩
  go_wp2_with fail
  refine (ePop_2 hr1 rfl).mono ?_
  rintro e w3 ⟨rfl, hr3, k3⟩
  have k4 := k1.trans k3
  go_wp2
  go_ret
  exact ⟨rfl, hr3, k4⟩

set_option maxRecDepth 100000 in
set_option maxHeartbeats 1000000 in
theorem hPop_1 {l : XL} {st : St} {ex : Ext} {w : World} (hr : XRep l st ex w) {d0 : Du} (hd : ex.due = [d0]) :
    Calls Tryz.prog 106 #[.iface 180 (.pointer (some ⟨l.ck, 1, none⟩))] w fun e w' => e = .returned (duVal l d0) ∧ XRep l st { ex with due := [] } w' ∧ Kept l.own w w' := by
  obtain ⟨h, hq⟩ := hr.q_some (by rw [hd]; simp)
  have c9 := hr.c_q hq (n := 1) (by rw [hd]; rfl)
  have hm1 := meth_Len l.ck 1 _ _ _ w c9
  have hm3 := meth_Swap l.ck 1 _ _ _ w c9
  have hm2 := meth_Pop
  go_enter Tryz.func106, Tryz.ntmps106
  go_wp2_with fail
  refine (eLen_any _ _ _ _ (by unfold maxLen; omega)).mono ?_
  rintro e w1 ⟨rfl, rfl⟩
  go_wp2_with fail
  refine (eSwap_00 hr hq hd).mono ?_
  rintro e w1 ⟨rfl, hr1, k1⟩
  go_wp2_with fail
  refine (hdown_any _ 0 (by omega) _).mono ?_
  rintro e w2 ⟨rfl, rfl⟩
  go_wp2_with fail
  refine (ePop_1 hr1 hd).mono ?_
  rintro e w3 ⟨rfl, hr3, k3⟩
  have k4 := k1.trans k3
  go_wp2
  go_ret
  exact ⟨rfl, hr3, k4⟩

set_option maxRecDepth 100000 in
set_option maxHeartbeats 1000000 in
theorem hPop_2 {l : XL} {st : St} {ex : Ext} {w : World} (hr : XRep l st ex w) {d0 d1 : Du} (hd : ex.due = [d0, d1]) :
    Calls Tryz.prog 106 #[.iface 180 (.pointer (some ⟨l.ck, 1, none⟩))] w fun e w' => e = .returned (duVal l d0) ∧ XRep l st { ex with due := [d1] } w' ∧ Kept l.own w w' := by
  obtain ⟨h, hq⟩ := hr.q_some (by rw [hd]; simp)
  have c9 := hr.c_q hq (n := 2) (by rw [hd]; rfl)
  have hm1 := meth_Len l.ck 1 _ _ _ w c9
  have hm3 := meth_Swap l.ck 1 _ _ _ w c9
  have hm2 := meth_Pop
  go_enter Tryz.func106, Tryz.ntmps106
  go_wp2_with fail
  refine (eLen_any _ _ _ _ (by unfold maxLen; omega)).mono ?_
  rintro e w1 ⟨rfl, rfl⟩
  go_wp2_with fail
  refine (eSwap_01 hr hq hd).mono ?_
  rintro e w1 ⟨rfl, hr1, k1⟩
  go_wp2_with fail
  refine (hdown_any _ 1 (by omega) _).mono ?_
  rintro e w2 ⟨rfl, rfl⟩
  go_wp2_with fail
  refine (ePop_2 hr1 rfl).mono ?_
  rintro e w3 ⟨rfl, hr3, k3⟩
  have k4 := k1.trans k3
  go_wp2
  go_ret
  exact ⟨rfl, hr3, k4⟩

/-- One more in the list, in its order. -/
def pushD (ds : List Du) (d : Du) : List Du := match ds with
  | [d0] => if lessB d d0 = true then [d, d0] else [d0, d]
  | _ => ds ++ [d]

theorem Grew.ck {l l' : XL} {w : World} (h : Grew l l' w) : l'.ck = l.ck := by obtain ⟨q, cap, rfl, _⟩ := h; rfl
theorem Grew.what {l l' : XL} {w : World} (h : Grew l l' w) (d : Du) : duWhat l' d = duWhat l d := by obtain ⟨q, cap, rfl, _⟩ := h; rfl
theorem Grew.blk {l l' : XL} {w : World} (h : Grew l l' w) (j : Nat) : l'.blk j = l.blk j := by obtain ⟨q, cap, rfl, _⟩ := h; exact blk_q l q cap j
theorem Grew.own {l l' : XL} {w : World} (h : Grew l l' w) {k : Nat} (hk : l'.own k) : l.own k ∨ w.heap.size ≤ k := by
  rcases hk with ⟨j, hj, rfl⟩ | hk
  · rw [h.blk]; exact Or.inl (Or.inl ⟨j, hj, rfl⟩)
  · obtain ⟨q, cap, rfl, hq⟩ := h
    rcases hq k hk with x | x
    · exact Or.inl (Or.inr x)
    · exact Or.inr x
theorem Grew.refl (l : XL) (w : World) : Grew l l w := ⟨l.q, l.cap, rfl, fun h hh => Or.inl hh⟩
/-- What is kept but for the blocks behind it is kept but for those ahead of it. -/
theorem Grew.kept {l l' : XL} {w w1 w2 : World} (h : Grew l l' w) (hs : w.heap.size ≤ w1.heap.size) (hk1 : Kept l.own w w1) (hk : Kept l'.own w1 w2) : Kept l.own w w2 :=
  ⟨hk.os.trans hk1.os, hk.tape.trans hk1.tape, hk.output.trans hk1.output, Nat.le_trans hk1.size hk.size, fun k hlt hS => by
    rw [hk.block k (Nat.lt_of_lt_of_le hlt hk1.size) (fun x => ?_), hk1.block k hlt hS]
    rcases h.own x with y | y
    · exact hS y
    · omega⟩

set_option maxRecDepth 100000 in
set_option maxHeartbeats 1000000 in
theorem hPush_0 {l : XL} {st : St} {ex : Ext} {w : World} (hr : XRep l st ex w) (hd : ex.due = []) (d : Du) :
    Calls Tryz.prog 115 #[.iface 180 (.pointer (some ⟨l.ck, 1, none⟩)), duVal l d] w fun e w' => e = .returned (.tuple #[]) ∧ ∃ l', Grew l l' w ∧ XRep l' st { ex with due := [d] } w' ∧ Kept l.own w w' := by
  have hm2 := meth_Push
  have HP : Hid _ := ePush_any hr d (by rw [hd]; simp)
  rw [hd] at HP
  unfold duVal at HP ⊢
  go_enter Tryz.func115, Tryz.ntmps115
  go_wp2_with fail
  refine Calls.mono HP.out ?_
  rintro e w1 ⟨rfl, l', gl, hr1, k1⟩
  obtain ⟨h, hq⟩ := hr1.q_some (by simp)
  have c9 := hr1.c_q hq (n := 1) rfl
  rw [gl.ck] at c9
  have hm1 := meth_Len l.ck 1 _ _ _ w1 c9
  go_wp2_with fail
  refine (eLen_any _ _ _ _ (by unfold maxLen; omega)).mono ?_
  rintro e w2 ⟨rfl, rfl⟩
  go_wp2_with fail
  refine (hup_0 l _).mono ?_
  rintro e w2 ⟨rfl, rfl⟩
  go_wp2
  (first | go_end0 | refine bodyPost_ret (results_none rfl _ _ _) rfl ?_)
  exact ⟨rfl, l', gl, hr1, k1⟩

set_option maxRecDepth 100000 in
set_option maxHeartbeats 1000000 in
theorem hPush_1 {l : XL} {st : St} {ex : Ext} {w : World} (hr : XRep l st ex w) {d0 : Du} (hd : ex.due = [d0]) (d : Du) :
    Calls Tryz.prog 115 #[.iface 180 (.pointer (some ⟨l.ck, 1, none⟩)), duVal l d] w fun e w' => e = .returned (.tuple #[]) ∧ ∃ l', Grew l l' w ∧ XRep l' st { ex with due := pushD [d0] d } w' ∧ Kept l.own w w' := by
  have hm2 := meth_Push
  have HP : Hid _ := ePush_any hr d (by rw [hd]; simp)
  rw [hd] at HP
  unfold duVal at HP ⊢
  go_enter Tryz.func115, Tryz.ntmps115
  go_wp2_with fail
  refine Calls.mono HP.out ?_
  rintro e w1 ⟨rfl, l', gl, hr1, k1⟩
  obtain ⟨h, hq⟩ := hr1.q_some (by simp)
  have c9 := hr1.c_q hq (n := 2) rfl
  have HU : Hid _ := hup_1 hr1 (d0 := d0) (d1 := d) rfl
  rw [gl.ck] at c9 HU
  have hm1 := meth_Len l.ck 1 _ _ _ w1 c9
  go_wp2_with fail
  refine (eLen_any _ _ _ _ (by unfold maxLen; omega)).mono ?_
  rintro e w2 ⟨rfl, rfl⟩
  go_wp2_with fail
  refine Calls.mono HU.out ?_
  rintro e w2 ⟨rfl, hr2, k2⟩
  have k3 := gl.kept k1.size k1 k2
  go_wp2
  (first | go_end0 | refine bodyPost_ret (results_none rfl _ _ _) rfl ?_)
  exact ⟨rfl, l', gl, hr2, k3⟩

end Go.Proofs.YtikdbpphbdbdnaaGreat

/- The queue: a thing is put in, is dropped, is taken out when it is due. -/
namespace Go.Proofs.YtikdbpphbdbdnaaGreat
open Go.RowKit
set_option linter.unusedVariables false

theorem eql_types (tx ty : TypeId) (vx vy : Value) (hne : tx ≠ ty) (w : World) :
    (binOp .eql 139 (.iface tx vx) (.iface ty vy)).run Tryz.prog w = .ok (.bool false) w := by
  have h : ∀ d : Nat, (Op.equalIn (d + 1) 139 (.iface tx vx) (.iface ty vy)).run Tryz.prog w = .ok false w := fun d => by simp [Op.equalIn, run_underlying Tryz.underlying139, hne]
  simp only [binOp]
  simp [Op.equal, Op.maxDepth, h 9999]

theorem eql_same (T E n : Nat) (hT : Tryz.prog.underlying T = some (.pointer E)) (hE : ∀ w : World, (sizeOf E).run Tryz.prog w = .ok n w) (hn : ¬ n = 0) (hc : (Tryz.prog.info? T).map (·.comparable) = some true) (a : Addr) (w : World) :
    (binOp .eql 139 (.iface T (.pointer (some a))) (.iface T (.pointer (some a)))).run Tryz.prog w = .ok (.bool true) w := by
  have hsa : (sameAddr a a).run Tryz.prog w = .ok true w := by simp [sameAddr, go_sem]
  have h0 : ∀ d : Nat, (Op.equalIn (d + 1) T (.pointer (some a)) (.pointer (some a))).run Tryz.prog w = .ok true w := fun d => by simp [Op.equalIn, run_underlying hT, hE, hn, hsa]
  have h : ∀ d : Nat, (Op.equalIn (d + 1 + 1) 139 (.iface T (.pointer (some a))) (.iface T (.pointer (some a)))).run Tryz.prog w = .ok true w := fun d => by
    cases hi : Tryz.prog.info? T with
    | none => rw [hi] at hc; cases hc
    | some i =>
      rw [hi] at hc
      simp at hc
      rw [Op.equalIn]
      simp [run_underlying Tryz.underlying139, h0 d, typeInfo, hi, hc, Sem.run_bind]
  simp only [binOp]
  simp [Op.equal, Op.maxDepth, h 9998]

theorem eql_timer (a : Addr) (w : World) : (binOp .eql 139 (.iface 116 (.pointer (some a))) (.iface 116 (.pointer (some a)))).run Tryz.prog w = .ok (.bool true) w :=
  eql_same 116 118 4 Tryz.underlying116 (fun _ => by kernel_rfl) (by omega) (by kernel_rfl) a w
theorem eql_watch (a : Addr) (w : World) : (binOp .eql 139 (.iface 119 (.pointer (some a))) (.iface 119 (.pointer (some a)))).run Tryz.prog w = .ok (.bool true) w :=
  eql_same 119 121 6 Tryz.underlying119 (fun _ => by kernel_rfl) (by omega) (by kernel_rfl) a w
theorem field_ent (t : TypeId) (p : Value) (b c : Value) (W : World) : (Instr.field 178 (.agg #[.iface t p, b, c]) 0).run Tryz.prog W = .ok (.iface t p) W := by kernel_rfl

/-- The part that is due, as a value. -/
def whatV (l : XL) (b : Bool) : Value := if b = true then .iface 119 (.pointer (some ⟨l.wa, 0, none⟩)) else .iface 116 (.pointer (some ⟨l.tm, 0, none⟩))

theorem duWhat_whatV (l : XL) (d : Du) : duWhat l d = whatV l d.wt := rfl

theorem eql_what (l : XL) (b c : Bool) (w : World) : (binOp .eql 139 (whatV l b) (whatV l c)).run Tryz.prog w = .ok (.bool (b == c)) w := by
  cases b <;> cases c
  · exact eql_timer _ w
  · exact eql_types _ _ _ _ (by decide) w
  · exact eql_types _ _ _ _ (by decide) w
  · exact eql_watch _ w

/-- The list has each thing once at most. -/
def DsOk (ds : List Du) : Prop := ds = [] ∨ (∃ d, ds = [d]) ∨ ∃ d0 d1, ds = [d0, d1] ∧ d1.wt = !d0.wt

/-- The list without one of them. -/
def dropD (b : Bool) : List Du → List Du
  | [] => []
  | [d] => if d.wt = b then [] else [d]
  | d0 :: d1 :: r => if d0.wt = b then d1 :: r else [d0]

theorem whatV_iface (l : XL) (b : Bool) : ∃ t a, whatV l b = .iface t (.pointer (some a)) := by
  unfold whatV
  split
  · exact ⟨_, _, rfl⟩
  · exact ⟨_, _, rfl⟩

set_option maxRecDepth 100000 in
set_option maxHeartbeats 1000000 in
theorem qDrop_0 {l : XL} {st : St} {ex : Ext} {w : World} (hr : XRep l st ex w) (b : Bool) (hd : ex.due = []) :
    Calls Tryz.prog 108 #[.pointer (some ⟨l.ck, 1, none⟩), whatV l b] w fun e w' => e = .returned (.tuple #[]) ∧ XRep l st ex w' ∧ Kept l.own w w' := by
  have c9 : ∃ a c, w.cell? ⟨l.ck, 1, none⟩ = some (.slice a 0 c) := by
    have h := hr.c_que
    rw [hd] at h
    unfold qval at h
    cases hq : l.q with
    | none => rw [hq] at h; exact ⟨_, _, h⟩
    | some x => rw [hq] at h; exact ⟨_, _, h⟩
  obtain ⟨a, c, c9⟩ := c9
  obtain ⟨t0, p0, e0⟩ := whatV_iface l b
  rw [e0]
  clear e0
  go_enter Tryz.func108, Tryz.ntmps108
  go_wp2
  go_loop [11] (fun i => i = .int .i64 0) (fun _ => 0)
  case atStart => exact rfl
  case round =>
    subst hrel
    go_wp2
    (first | go_end0 | refine bodyPost_ret (results_none rfl _ _ _) rfl ?_)
    exact ⟨rfl, hr, Kept.refl _ _⟩

set_option maxRecDepth 100000 in
set_option maxHeartbeats 1000000 in
theorem qDrop_1 {l : XL} {st : St} {ex : Ext} {w : World} (hr : XRep l st ex w) (b : Bool) {d : Du} (hd : ex.due = [d]) :
    Calls Tryz.prog 108 #[.pointer (some ⟨l.ck, 1, none⟩), whatV l b] w fun e w' => e = .returned (.tuple #[]) ∧ XRep l st { ex with due := dropD b [d] } w' ∧ Kept l.own w w' := by
  obtain ⟨h, hq⟩ := hr.q_some (by rw [hd]; simp)
  obtain ⟨⟨c0, c1, c2⟩, _⟩ := hr.q_one hq hd
  have c9 := hr.c_q hq (n := 1) (by rw [hd]; rfl)
  have heq := fun W => eql_what l d.wt b W
  rw [duWhat_whatV] at c0
  obtain ⟨t0, p0, e0⟩ := whatV_iface l d.wt
  obtain ⟨t1, p1, e1⟩ := whatV_iface l b
  rw [e0] at c0
  rw [e0, e1] at heq
  rw [e1]
  clear e0 e1
  have hlt := hr.ck_q
  have hlh : h < w.heap.size := lt_of_cell c0
  by_cases hb : d.wt = b
  · have HF : Hid (dropD b [d] = []) := by simp [Hid, dropD, hb]
    have hbb : (d.wt == b) = true := by rw [hb]; simp
    rw [hbb] at heq
    clear hb hbb
    have HR : Hid _ := fun o => hRemove_1 (hr.alloc o) hd
    go_enter Tryz.func108, Tryz.ntmps108
    go_wp2
    go_loop [11] (fun i => i = .int .i64 0) (fun _ => 0)
    case atStart => exact rfl
    case round =>
      subst hrel
      go_wp2_with fail
      refine Calls.mono (HR.out _) ?_
      rintro e w1 ⟨rfl, hr1, k1⟩
      have k2 := ((Kept.refl l.own w).alloc _).trans k1
      go_wp2
      (first | go_end0 | refine bodyPost_ret (results_none rfl _ _ _) rfl ?_)
      exact ⟨rfl, hr1.as rfl (by rw [HF.out]), k2⟩
  · have HF : Hid (dropD b [d] = [d]) := by simp [Hid, dropD, hb]
    have hbb : (d.wt == b) = false := by simpa using hb
    rw [hbb] at heq
    clear hb hbb
    go_enter Tryz.func108, Tryz.ntmps108
    go_wp2
    go_loopw [11] (fun i wx => (i = .int .i64 0 ∧ wx = w) ∨ (i = .int .i64 1 ∧ XRep l st ex wx ∧ Kept l.own w wx)) (fun i _ => 1 - (intOf i).toNat)
    case atStart => exact Or.inl ⟨rfl, rfl⟩
    case round =>
      rcases hrel with ⟨rfl, rfl⟩ | ⟨rfl, hx, kx⟩
      · go_wp2
        exact ⟨Or.inr ⟨rfl, hr.alloc _, (Kept.refl _ _).alloc _⟩, by decide⟩
      · go_wp2
        (first | go_end0 | refine bodyPost_ret (results_none rfl _ _ _) rfl ?_)
        exact ⟨rfl, hx.as rfl (by rw [HF.out, ← hd]), kx⟩

set_option maxRecDepth 100000 in
set_option maxHeartbeats 1000000 in
theorem qDrop_2 {l : XL} {st : St} {ex : Ext} {w : World} (hr : XRep l st ex w) (b : Bool) {d0 d1 : Du} (hd : ex.due = [d0, d1]) (hne : d1.wt = !d0.wt) :
    Calls Tryz.prog 108 #[.pointer (some ⟨l.ck, 1, none⟩), whatV l b] w fun e w' => e = .returned (.tuple #[]) ∧ XRep l st { ex with due := dropD b [d0, d1] } w' ∧ Kept l.own w w' := by
  obtain ⟨h, hq⟩ := hr.q_some (by rw [hd]; simp)
  have c9 := hr.c_q hq (n := 2) (by rw [hd]; rfl)
  have heq := fun W => eql_what l d0.wt b W
  have heq1 := fun W => eql_what l d1.wt b W
  have HQ : Hid (∀ W, XRep l st ex W → (W.cell? ⟨h, 0, none⟩ = some (whatV l d0.wt) ∧ W.cell? ⟨h, 1, none⟩ = some (.int .i64 d0.at_) ∧ W.cell? ⟨h, 2, none⟩ = some (.int .i64 (duTurn d0))) ∧ (W.cell? ⟨h, 3, none⟩ = some (whatV l d1.wt) ∧ W.cell? ⟨h, 4, none⟩ = some (.int .i64 d1.at_) ∧ W.cell? ⟨h, 5, none⟩ = some (.int .i64 (duTurn d1)))) := fun W hW => ⟨(hW.q_two hq hd).1, (hW.q_two hq hd).2.1⟩
  obtain ⟨t0, p0, e0⟩ := whatV_iface l d0.wt
  obtain ⟨t1, p1, e1⟩ := whatV_iface l b
  obtain ⟨t2, p2, e2⟩ := whatV_iface l d1.wt
  rw [e0, e2] at HQ
  rw [e0, e1] at heq
  rw [e2, e1] at heq1
  rw [e1]
  clear e0 e1 e2
  have hlt := hr.ck_q
  by_cases hb : d0.wt = b
  · have HF : Hid (dropD b [d0, d1] = [d1]) := by simp [Hid, dropD, hb]
    have hbb : (d0.wt == b) = true := by rw [hb]; simp
    rw [hbb] at heq
    clear hb hbb
    have HR : Hid _ := fun o => hRemove_20 (hr.alloc o) hd
    obtain ⟨⟨c0, c1, c2⟩, ⟨c3, c4, c5⟩⟩ := HQ.out w hr
    have hlh : h < w.heap.size := lt_of_cell c0
    go_enter Tryz.func108, Tryz.ntmps108
    go_wp2
    go_loop [11] (fun i => i = .int .i64 0) (fun _ => 0)
    case atStart => exact rfl
    case round =>
      subst hrel
      go_wp2_with fail
      refine Calls.mono (HR.out _) ?_
      rintro e w1 ⟨rfl, hr1, k1⟩
      have k2 := ((Kept.refl l.own w).alloc _).trans k1
      go_wp2
      (first | go_end0 | refine bodyPost_ret (results_none rfl _ _ _) rfl ?_)
      exact ⟨rfl, hr1.as rfl (by rw [HF.out]), k2⟩
  · have HF : Hid (dropD b [d0, d1] = [d0]) := by simp [Hid, dropD, hb]
    have hbb : (d0.wt == b) = false := by simpa using hb
    have hbc : (d1.wt == b) = true := by
      rw [hne]
      revert hb
      cases d0.wt <;> cases b <;> simp
    rw [hbb] at heq
    rw [hbc] at heq1
    clear hb hbb hbc hne
    have HR : Hid (∀ W, XRep l st ex W → ∀ o, Calls Tryz.prog 114 #[.iface 180 (.pointer (some ⟨l.ck, 1, none⟩)), .int .i64 1] (W.alloc o) fun e w' => e = .returned (duVal l d1) ∧ XRep l st { ex with due := [d0] } w' ∧ Kept l.own (W.alloc o) w') := fun W hW o => hRemove_21 (hW.alloc o) hd
    go_enter Tryz.func108, Tryz.ntmps108
    go_wp2
    go_loopw [11] (fun i wx => (i = .int .i64 0 ∧ wx = w) ∨ (i = .int .i64 1 ∧ XRep l st ex wx ∧ Kept l.own w wx)) (fun i _ => 1 - (intOf i).toNat)
    case atStart => exact Or.inl ⟨rfl, rfl⟩
    case round =>
      rcases hrel with ⟨rfl, rfl⟩ | ⟨rfl, hx, kx⟩
      · obtain ⟨⟨c0, c1, c2⟩, ⟨c3, c4, c5⟩⟩ := HQ.out _ hr
        have hlh : h < wr.heap.size := lt_of_cell c0
        go_wp2
        exact ⟨Or.inr ⟨rfl, hr.alloc _, (Kept.refl _ _).alloc _⟩, by decide⟩
      · obtain ⟨⟨c0, c1, c2⟩, ⟨c3, c4, c5⟩⟩ := HQ.out _ hx
        have hlh : h < wr.heap.size := lt_of_cell c0
        go_wp2_with fail
        refine Calls.mono (HR.out _ hx _) ?_
        rintro e w1 ⟨rfl, hr1, k1⟩
        have k2 := (kx.alloc _).trans k1
        go_wp2
        (first | go_end0 | refine bodyPost_ret (results_none rfl _ _ _) rfl ?_)
        exact ⟨rfl, hr1.as rfl (by rw [HF.out]), k2⟩

theorem qDrop_any {l : XL} {st : St} {ex : Ext} {w : World} (hr : XRep l st ex w) (b : Bool) (hd : DsOk ex.due) :
    Calls Tryz.prog 108 #[.pointer (some ⟨l.ck, 1, none⟩), whatV l b] w fun e w' => e = .returned (.tuple #[]) ∧ XRep l st { ex with due := dropD b ex.due } w' ∧ Kept l.own w w' := by
  rcases hd with hd | ⟨d, hd⟩ | ⟨d0, d1, hd, hne⟩
  · exact (qDrop_0 hr b hd).mono fun e w' ⟨h1, h2, h3⟩ => ⟨h1, h2.as rfl (by rw [hd]; show ex = { ex with due := [] }; rw [← hd]), h3⟩
  · rw [hd]; exact qDrop_1 hr b hd
  · rw [hd]; exact qDrop_2 hr b hd hne

theorem dropD_len (b : Bool) {ds : List Du} (h : DsOk ds) : dropD b ds = [] ∨ ∃ d, dropD b ds = [d] ∧ d.wt = !b := by
  rcases h with rfl | ⟨d, rfl⟩ | ⟨d0, d1, rfl, hne⟩
  · exact Or.inl rfl
  · simp only [dropD]
    by_cases e : d.wt = b
    · rw [if_pos e]; exact Or.inl rfl
    · rw [if_neg e]; exact Or.inr ⟨d, rfl, by revert e; cases d.wt <;> cases b <;> simp⟩
  · simp only [dropD]
    by_cases e : d0.wt = b
    · rw [if_pos e]; exact Or.inr ⟨d1, rfl, by rw [hne, e]⟩
    · rw [if_neg e]; exact Or.inr ⟨d0, rfl, by revert e; cases d0.wt <;> cases b <;> simp⟩

/-- A thing is put into the list, at a time. -/
def putD (ds : List Du) (d : Du) : List Du := pushD (dropD d.wt ds) d

theorem duVal_eq (l : XL) (b : Bool) (t : Int) : duVal l ⟨b, t⟩ = .iface 178 (.agg #[whatV l b, .int .i64 t, .int .i64 (duTurn ⟨b, t⟩)]) := rfl

set_option maxRecDepth 100000 in
set_option maxHeartbeats 1000000 in
theorem qPut_any {l : XL} {st : St} {ex : Ext} {w : World} (hr : XRep l st ex w) (b : Bool) (t u : Int) (hu : u = duTurn ⟨b, t⟩) (hd : DsOk ex.due) :
    Calls Tryz.prog 109 #[.pointer (some ⟨l.ck, 1, none⟩), whatV l b, .int .i64 t, .int .i64 u] w fun e w' => e = .returned (.tuple #[]) ∧ ∃ l', Grew l l' w ∧ XRep l' st { ex with due := putD ex.due ⟨b, t⟩ } w' ∧ Kept l.own w w' := by
  have HD : Hid _ := qDrop_any hr b hd
  have HP : Hid (∀ W, XRep l st { ex with due := dropD b ex.due } W → Calls Tryz.prog 115 #[.iface 180 (.pointer (some ⟨l.ck, 1, none⟩)), duVal l ⟨b, t⟩] W fun e w' => e = .returned (.tuple #[]) ∧ ∃ l', Grew l l' W ∧ XRep l' st { ex with due := putD ex.due ⟨b, t⟩ } w' ∧ Kept l.own W w') := fun W hW => by
    unfold putD
    show Calls _ _ _ _ fun e w' => _ ∧ ∃ l', _ ∧ XRep l' st { ex with due := pushD (dropD b ex.due) ⟨b, t⟩ } w' ∧ _
    rcases dropD_len b hd with e | ⟨d, e, _⟩
    · rw [e]; exact hPush_0 hW e ⟨b, t⟩
    · rw [e]; exact hPush_1 hW e ⟨b, t⟩
  rw [duVal_eq, ← hu] at HP
  clear hu
  obtain ⟨t0, p0, e0⟩ := whatV_iface l b
  rw [e0] at HP HD ⊢
  clear e0
  go_enter Tryz.func109, Tryz.ntmps109
  go_wp2_with fail
  refine Calls.mono HD.out ?_
  rintro e w1 ⟨rfl, hr1, k1⟩
  go_wp2_with fail
  refine Calls.mono (HP.out _ hr1) ?_
  rintro e w2 ⟨rfl, l', gl, hr2, k2⟩
  have k3 := k1.trans k2
  have gl2 : Grew l l' w := by
    obtain ⟨q, cap, e, h⟩ := gl
    exact ⟨q, cap, e, fun x hx => (h x hx).imp id (fun y => Nat.le_trans k1.size y)⟩
  go_wp2
  (first | go_end0 | refine bodyPost_ret (results_none rfl _ _ _) rfl ?_)
  exact ⟨rfl, l', gl2, hr2, k3⟩

set_option maxRecDepth 100000 in
set_option maxHeartbeats 1000000 in
theorem qTake_none {l : XL} {st : St} {ex : Ext} {w : World} (hr : XRep l st ex w) (t : Int) (hd : ex.due = [] ∨ ∃ d r, ex.due = d :: r ∧ t < d.at_) (hl : ex.due.length ≤ 2) :
    Calls Tryz.prog 93 #[.pointer (some ⟨l.ck, 1, none⟩), .int .i64 t] w fun e w' => e = .returned (.tuple #[.nilIface, .bool false]) ∧ w' = w := by
  rcases hd with hd | ⟨d, r, hd, hlt⟩
  · have c9 : ∃ a c, w.cell? ⟨l.ck, 1, none⟩ = some (.slice a 0 c) := by
      have h := hr.c_que
      rw [hd] at h
      unfold qval at h
      cases hq : l.q with
      | none => rw [hq] at h; exact ⟨_, _, h⟩
      | some x => rw [hq] at h; exact ⟨_, _, h⟩
    obtain ⟨a, c, c9⟩ := c9
    go_enter Tryz.func93, Tryz.ntmps93
    go_wp2
    go_ret2
    exact ⟨rfl, rfl⟩
  · obtain ⟨h, hq⟩ := hr.q_some (by rw [hd]; simp)
    have c1 := (hr.q_cell hq 1 (.int .i64 d.at_) (by rw [hd]; rfl)).1
    obtain ⟨n, hn⟩ : ∃ n, ex.due.length = n := ⟨_, rfl⟩
    have c9 := hr.c_q hq (n := n) hn
    have hn0 : 0 < n := by rw [← hn, hd]; simp
    have hn2 : n ≤ 2 := by omega
    have hnz : ((n : Int) == 0) = false := beq_eq_false_iff_ne.2 (by omega)
    have hn0' : (0 : Int) < (n : Int) := by omega
    clear hn
    go_enter Tryz.func93, Tryz.ntmps93
    go_wp2
    go_ret2
    exact ⟨rfl, rfl⟩

set_option maxRecDepth 100000 in
set_option maxHeartbeats 1000000 in
theorem qTake_some {l : XL} {st : St} {ex : Ext} {w : World} (hr : XRep l st ex w) (t : Int) {d : Du} {r : List Du} (hd : ex.due = d :: r) (hle : d.at_ ≤ t) (hl : ex.due.length ≤ 2) :
    Calls Tryz.prog 93 #[.pointer (some ⟨l.ck, 1, none⟩), .int .i64 t] w fun e w' => e = .returned (.tuple #[whatV l d.wt, .bool true]) ∧ XRep l st { ex with due := r } w' ∧ Kept l.own w w' := by
  have HP : Hid (Calls Tryz.prog 106 #[.iface 180 (.pointer (some ⟨l.ck, 1, none⟩))] w fun e w' => e = .returned (duVal l d) ∧ XRep l st { ex with due := r } w' ∧ Kept l.own w w') := by
    unfold Hid
    match r, hd with
    | [], hd => exact hPop_1 hr hd
    | [d1], hd => exact hPop_2 hr hd
    | d1 :: d2 :: r', hd => rw [hd] at hl; simp at hl
  obtain ⟨h, hq⟩ := hr.q_some (by rw [hd]; simp)
  have c1 := (hr.q_cell hq 1 (.int .i64 d.at_) (by rw [hd]; rfl)).1
  obtain ⟨n, hn⟩ : ∃ n, ex.due.length = n := ⟨_, rfl⟩
  have c9 := hr.c_q hq (n := n) hn
  have hn0 : 0 < n := by rw [← hn, hd]; simp
  have hn2 : n ≤ 2 := by omega
  have hnz : ((n : Int) == 0) = false := beq_eq_false_iff_ne.2 (by omega)
  have hn0' : (0 : Int) < (n : Int) := by omega
  have hta := assert_ent
  have hfd := field_ent
  unfold duVal at HP
  rw [duWhat_whatV] at HP
  obtain ⟨t0, p0, e0⟩ := whatV_iface l d.wt
  rw [e0] at HP ⊢
  clear hn e0
  go_enter Tryz.func93, Tryz.ntmps93
  go_wp2_with fail
  refine Calls.mono HP.out ?_
  rintro e w1 ⟨rfl, hr1, k1⟩
  go_wp2
  go_ret2
  exact ⟨rfl, hr1, k1⟩

end Go.Proofs.YtikdbpphbdbdnaaGreat
