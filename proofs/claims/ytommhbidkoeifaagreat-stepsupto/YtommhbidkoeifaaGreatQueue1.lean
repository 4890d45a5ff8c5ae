/- The queue of what is due: its list in memory, and the methods by which container/heap keeps it. -/
import Derived.Test.YtommhbidkoeifaaGreatParts1
import Derived.Deep.AppendLies
namespace Go.Proofs.YtommhbidkoeifaaGreat
open Go.RowKit
set_option linter.unusedVariables false

theorem wrap_ok (T : TypeId) (p : Addr) (name : String) (w : World) : (Builtin.ssaWrapNilChk_ #[T] T #[.pointer (some p), strVal "", strVal name]).run Tryz.prog w = .ok (.pointer (some p)) w := rfl

theorem meth_val {fuel T E f : Nat} {name : String} {i : TypeInfo} {m : Method} {p : Addr} {v : Value} {w : World} (hi : Tryz.prog.info? T = some i) (hm : i.methods.find? (·.name == name) = some m) (hp : m.path = #[]) (hf : m.func = some (f, false)) (hu : Tryz.prog.underlying T = some (.pointer E)) (hl : (loadVar E p).run Tryz.prog w = .ok v w) :
    (method (fuel + 1) T (.pointer (some p)) name).run Tryz.prog w = .ok (f, v) w := by
  have ht : (typeInfo T).run Tryz.prog w = .ok i w := by simp [typeInfo, hi, Sem.run_bind, go_sem]
  have hun : (underlying T).run Tryz.prog w = .ok (.pointer E) w := by simp [underlying, hu, Sem.run_bind, go_sem]
  have hrec : ∀ nm, (receiverAt T (.val (.pointer (some p))) false (some nm)).run Tryz.prog w = .ok v w := fun nm => by
    unfold receiverAt
    rw [Sem.run_bind, hun]
    simp only [Result.andThen]
    have h1 : ((Place.val (Value.pointer (some p))).get T).run Tryz.prog w = .ok (.pointer (some p)) w := rfl
    have h2 : (asAddr (.pointer (some p))).run Tryz.prog w = .ok p w := rfl
    rw [Sem.run_bind, h1]
    simp only [Result.andThen]
    rw [Sem.run_bind, wrap_ok]
    simp only [Result.andThen]
    rw [Sem.run_bind, h2]
    simp only [Result.andThen]
    exact hl
  unfold method
  rw [Sem.run_bind, ht]
  simp only [Result.andThen, hm, hp, hf]
  have hfo : (follow (#[] : Array FieldStep).toList T (.val (.pointer (some p)))).run Tryz.prog w = .ok (T, .val (.pointer (some p))) w := rfl
  rw [Sem.run_bind, hfo]
  simp only [Result.andThen]
  rw [Sem.run_bind]
  rw [if_pos (by rfl), hrec]
  rfl

theorem ent_info (name : String) (f : Nat) (h : (Tryz.prog.info? 180).map (fun i => (i.methods.find? (·.name == name)).map (fun m => (m.path.size, m.func))) = some (some (0, some (f, false)))) :
    ∃ i m, Tryz.prog.info? 180 = some i ∧ i.methods.find? (·.name == name) = some m ∧ m.path = #[] ∧ m.func = some (f, false) := by
  cases hi : Tryz.prog.info? 180 with
  | none => rw [hi] at h; cases h
  | some i =>
    rw [hi] at h
    simp only [Option.map_some, Option.some.injEq] at h
    cases hm : i.methods.find? (·.name == name) with
    | none => rw [hm] at h; cases h
    | some m =>
      rw [hm] at h
      simp only [Option.map_some, Option.some.injEq, Prod.mk.injEq] at h
      exact ⟨i, m, rfl, hm, Array.eq_empty_of_size_eq_zero h.1, h.2⟩

theorem load_hdr (b o : Nat) (a : Option Addr) (n c : Nat) (w : World) (hc : w.cell? ⟨b, o, none⟩ = some (.slice a n c)) : (loadVar 107 ⟨b, o, none⟩).run Tryz.prog w = .ok (.slice a n c) w := by
  simp [go_sem, hc]

theorem meth_Len (b o : Nat) (a : Option Addr) (n c : Nat) (w : World) (hc : w.cell? ⟨b, o, none⟩ = some (.slice a n c)) : (method 310 180 (.pointer (some ⟨b, o, none⟩)) "Len").run Tryz.prog w = .ok (128, .slice a n c) w := by
  obtain ⟨i, m, h1, h2, h3, h4⟩ := ent_info "Len" 128 (by kernel_rfl)
  exact meth_val h1 h2 h3 h4 Tryz.underlying180 (load_hdr b o a n c w hc)

theorem meth_Less (b o : Nat) (a : Option Addr) (n c : Nat) (w : World) (hc : w.cell? ⟨b, o, none⟩ = some (.slice a n c)) : (method 310 180 (.pointer (some ⟨b, o, none⟩)) "Less").run Tryz.prog w = .ok (129, .slice a n c) w := by
  obtain ⟨i, m, h1, h2, h3, h4⟩ := ent_info "Less" 129 (by kernel_rfl)
  exact meth_val h1 h2 h3 h4 Tryz.underlying180 (load_hdr b o a n c w hc)

theorem meth_Swap (b o : Nat) (a : Option Addr) (n c : Nat) (w : World) (hc : w.cell? ⟨b, o, none⟩ = some (.slice a n c)) : (method 310 180 (.pointer (some ⟨b, o, none⟩)) "Swap").run Tryz.prog w = .ok (130, .slice a n c) w := by
  obtain ⟨i, m, h1, h2, h3, h4⟩ := ent_info "Swap" 130 (by kernel_rfl)
  exact meth_val h1 h2 h3 h4 Tryz.underlying180 (load_hdr b o a n c w hc)

theorem meth_Push (p : Addr) (w : World) : (method 310 180 (.pointer (some p)) "Push").run Tryz.prog w = .ok (141, .pointer (some p)) w := by kernel_rfl
theorem meth_Pop (p : Addr) (w : World) : (method 310 180 (.pointer (some p)) "Pop").run Tryz.prog w = .ok (140, .pointer (some p)) w := by kernel_rfl

/-- The queue's cells. -/
theorem XRep.q_row {l : XL} {st : St} {ex : Ext} {w : World} (hr : XRep l st ex w) {h : Nat} (hq : l.q = some h) :
    ∃ cur, w.heap[h]? = some (.cells cur 178 (0, 0)) ∧ ex.due.length ≤ l.cap ∧ l.cap ≤ maxLen ∧ cur.size = l.cap * 3 ∧ cur.toList.take (ex.due.length * 3) = duCells l ex.due := by
  have h2 := hr.qu.2
  have hv : ∀ n, qval l n = .slice (some ⟨h, 0, none⟩) n l.cap := fun n => by unfold qval; rw [hq]
  rw [hv] at h2
  rcases h2 with ⟨e, _⟩ | ⟨g, cap, cur, e, _, hg, hn, hm, hs, hx⟩
  · cases e
  · cases e
    exact ⟨cur, hg, hn, hm, hs, hx⟩

theorem XRep.q_some {l : XL} {st : St} {ex : Ext} {w : World} (hr : XRep l st ex w) (hd : 0 < ex.due.length) : ∃ h, l.q = some h := by
  cases hq : l.q with
  | some h => exact ⟨h, rfl⟩
  | none =>
    have h2 := hr.qu.2
    have hv : ∀ n, qval l n = .slice none 0 0 := fun n => by unfold qval; rw [hq]
    rw [hv] at h2
    rcases h2 with ⟨_, e⟩ | ⟨g, cap, cur, e, _⟩
    · omega
    · cases e

theorem XRep.q_cell {l : XL} {st : St} {ex : Ext} {w : World} (hr : XRep l st ex w) {h : Nat} (hq : l.q = some h) (i : Nat) (v : Value) (hv : (duCells l ex.due)[i]? = some v) :
    w.cell? ⟨h, i, none⟩ = some v ∧ w.frozen? ⟨h, i, none⟩ = false := by
  obtain ⟨cur, hg, hn, _, hs, hx⟩ := hr.q_row hq
  rw [← hx] at hv
  have hi : i < ex.due.length * 3 := by
    rcases Nat.lt_or_ge i (ex.due.length * 3) with h | h
    · exact h
    · rw [List.getElem?_eq_none (by rw [List.length_take]; omega)] at hv; cases hv
  rw [List.getElem?_take_of_lt hi, Array.getElem?_toList] at hv
  constructor
  · simp [World.cell?, hg, hv]
  · simp [World.frozen?, hg]

theorem xenc_q (l : XL) (st : St) (ex : Ext) (q : Option Nat) (cap : Nat) (ds : List Du) (j : Nat) (hj : j < 11) (hne : j ≠ 3) : xenc { l with q := q, cap := cap } st { ex with due := ds } j = xenc l st ex j := by
  rcases eleven hj with rfl | rfl | rfl | rfl | rfl | rfl | rfl | rfl | rfl | rfl | rfl <;> first | rfl | exact absurd rfl hne

theorem blk_q (l : XL) (q : Option Nat) (cap : Nat) (j : Nat) : ({ l with q := q, cap := cap } : XL).blk j = l.blk j := by
  unfold XL.blk
  split <;> rfl

/-- The queue has turned. -/
theorem XRep.requeue {l : XL} {st : St} {ex : Ext} {w w' : World} (hr : XRep l st ex w) (q : Option Nat) (cap : Nat) (ds : List Du) (hk : Kept (fun k => k = l.ck ∨ l.q = some k) w w')
    (c0 : w'.cell? ⟨l.ck, 0, none⟩ = some (.int .i64 ex.now)) (c1 : w'.cell? ⟨l.ck, 1, none⟩ = some (qval { l with q := q, cap := cap } ds.length)) (hf : ∀ j, j < 2 → w'.frozen? ⟨l.ck, j, none⟩ = false)
    (hrow : w'.ownsRow 0 178 3 (qval { l with q := q, cap := cap } ds.length) ds.length (duCells l ds)) (hq : ∀ h, q = some h → l.q = some h ∨ w.heap.size ≤ h) :
    XRep { l with q := q, cap := cap } st { ex with due := ds } w' := by
  refine ⟨fun j hj => ?_, fun i j hi hj e => ?_, hrow, fun h hh j hj => ?_⟩
  · rw [blk_q]
    by_cases e : j = 3
    · subst e
      intro i hi
      have hi2 : i < 2 := hi
      have : i = 0 ∨ i = 1 := by omega
      rcases this with rfl | rfl
      · exact ⟨c0, hf 0 (by omega)⟩
      · exact ⟨c1, hf 1 (by omega)⟩
    · rw [xenc_q l st ex q cap ds j hj e]
      refine (hr.all j hj).kept hk (hr.lt (Or.inl ⟨j, hj, rfl⟩)) (fun x => ?_)
      rcases x with x | x
      · exact e (hr.inj j 3 hj (by omega) x)
      · exact hr.qa _ x j hj rfl
  · rw [blk_q, blk_q] at e
    exact hr.inj i j hi hj e
  · rw [blk_q]
    rcases hq h hh with x | x
    · exact hr.qa h x j hj
    · intro e
      have := hr.lt (k := l.blk j) (Or.inl ⟨j, hj, rfl⟩)
      omega

/-- Which of two is nearer. -/
def lessB (a b : Du) : Bool := if a.at_ = b.at_ then decide (duTurn a < duTurn b) else decide (a.at_ < b.at_)

set_option maxHeartbeats 400000 in
theorem eLen_any (a : Option Addr) (n c : Nat) (w : World) (hn : n ≤ maxLen) :
    Calls Tryz.prog 128 #[.slice a n c] w fun e w' => e = .returned (.int .i64 n) ∧ w' = w := by
  unfold maxLen at hn
  go_enter Tryz.func128, Tryz.ntmps128
  go_wp2
  go_ret
  exact ⟨rfl, rfl⟩

set_option maxHeartbeats 400000 in
theorem eLess_10 {l : XL} {st : St} {ex : Ext} {w : World} (hr : XRep l st ex w) {h : Nat} (hq : l.q = some h) {d0 d1 : Du} (hd : ex.due = [d0, d1]) :
    Calls Tryz.prog 129 #[.slice (some ⟨h, 0, none⟩) 2 l.cap, .int .i64 1, .int .i64 0] w fun e w' => e = .returned (.bool (lessB d1 d0)) ∧ ∃ n, w' = w.drewN n := by
  have q1 := (hr.q_cell hq 1 _ (by rw [hd]; rfl)).1
  have q2 := (hr.q_cell hq 2 _ (by rw [hd]; rfl)).1
  have q4 := (hr.q_cell hq 4 _ (by rw [hd]; rfl)).1
  have q5 := (hr.q_cell hq 5 _ (by rw [hd]; rfl)).1
  by_cases he : d1.at_ = d0.at_
  · have HF : Hid (lessB d1 d0 = decide (duTurn d1 < duTurn d0)) := by unfold Hid lessB; rw [if_pos he]
    have hn : (d1.at_ != d0.at_) = false := by rw [he]; simp
    clear he
    go_enter Tryz.func129, Tryz.ntmps129
    go_wp2
    go_quiet (fail)
    go_wp2
    go_quiet (fail)
    go_wp2
    go_ret
    exact ⟨ret_bool HF.out.symm, _, World.drewN_drewN _ _ _⟩
  · have HF : Hid (lessB d1 d0 = decide (d1.at_ < d0.at_)) := by unfold Hid lessB; rw [if_neg he]
    have hn : (d1.at_ != d0.at_) = true := by rw [bne_iff_ne]; exact he
    clear he
    go_enter Tryz.func129, Tryz.ntmps129
    go_wp2
    go_quiet (fail)
    go_wp2
    go_quiet (fail)
    go_wp2
    go_ret
    exact ⟨ret_bool HF.out.symm, _, World.drewN_drewN _ _ _⟩

end Go.Proofs.YtommhbidkoeifaaGreat
