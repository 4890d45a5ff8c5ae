/- The queue: a thing is put in, is dropped, is taken out when it is due. -/
import Derived.Test.YtommhbidkoeifaaGreatQueue3
namespace Go.Proofs.YtommhbidkoeifaaGreat
open Go.RowKit
set_option linter.unusedVariables false

theorem eql_types (tx ty : TypeId) (vx vy : Value) (hne : tx ≠ ty) (w : World) :
    (binOp .eql 139 (.iface tx vx) (.iface ty vy)).run Tryz.prog w = .ok (.bool false) w := by
  have h : ∀ d : Nat, (Op.equalIn (d + 1) 139 (.iface tx vx) (.iface ty vy)).run Tryz.prog w = .ok false w := fun d => by simp [Op.equalIn, run_underlying Tryz.underlying139, hne]
  simp only [binOp]
  simp [Op.equal, Op.maxDepth, h 9999]

theorem eql_same (T E n : Nat) (hT : Tryz.prog.underlying T = some (.pointer E)) (hE : ∀ w : World, (sizeOf E).run Tryz.prog w = .ok n w) (hn : ¬ n = 0) (hc : (Tryz.prog.info? T).map (·.comparable) = some true) (a : Addr) (w : World) :
    (binOp .eql 139 (.iface T (.pointer (some a))) (.iface T (.pointer (some a)))).run Tryz.prog w = .ok (.bool true) w := by
  have hsa : (sameAddr a a).run Tryz.prog w = .ok true w := by simp [sameAddr, go_sem]
  have h0 : ∀ d : Nat, (Op.equalIn (d + 1) T (.pointer (some a)) (.pointer (some a))).run Tryz.prog w = .ok true w := fun d => by simp [Op.equalIn, run_underlying hT, hE, hn, hsa]
  have h : ∀ d : Nat, (Op.equalIn (d + 1 + 1) 139 (.iface T (.pointer (some a))) (.iface T (.pointer (some a)))).run Tryz.prog w = .ok true w := fun d => by
    cases hi : Tryz.prog.info? T with
    | none => rw [hi] at hc; cases hc
    | some i =>
      rw [hi] at hc
      simp at hc
      rw [Op.equalIn]
      simp [run_underlying Tryz.underlying139, h0 d, typeInfo, hi, hc, Sem.run_bind]
  simp only [binOp]
  simp [Op.equal, Op.maxDepth, h 9998]

theorem eql_timer (a : Addr) (w : World) : (binOp .eql 139 (.iface 114 (.pointer (some a))) (.iface 114 (.pointer (some a)))).run Tryz.prog w = .ok (.bool true) w :=
  eql_same 114 116 4 Tryz.underlying114 (fun _ => by kernel_rfl) (by omega) (by kernel_rfl) a w
theorem eql_watch (a : Addr) (w : World) : (binOp .eql 139 (.iface 117 (.pointer (some a))) (.iface 117 (.pointer (some a)))).run Tryz.prog w = .ok (.bool true) w :=
  eql_same 117 119 6 Tryz.underlying117 (fun _ => by kernel_rfl) (by omega) (by kernel_rfl) a w
theorem field_ent (t : TypeId) (p : Value) (b c : Value) (W : World) : (Instr.field 178 (.agg #[.iface t p, b, c]) 0).run Tryz.prog W = .ok (.iface t p) W := by kernel_rfl

/-- The part that is due, as a value. -/
def whatV (l : XL) (b : Bool) : Value := if b = true then .iface 117 (.pointer (some ⟨l.wa, 0, none⟩)) else .iface 114 (.pointer (some ⟨l.tm, 0, none⟩))

theorem duWhat_whatV (l : XL) (d : Du) : duWhat l d = whatV l d.wt := rfl

theorem eql_what (l : XL) (b c : Bool) (w : World) : (binOp .eql 139 (whatV l b) (whatV l c)).run Tryz.prog w = .ok (.bool (b == c)) w := by
  cases b <;> cases c
  · exact eql_timer _ w
  · exact eql_types _ _ _ _ (by decide) w
  · exact eql_types _ _ _ _ (by decide) w
  · exact eql_watch _ w

/-- The list has each thing once at most. -/
def DsOk (ds : List Du) : Prop := ds = [] ∨ (∃ d, ds = [d]) ∨ ∃ d0 d1, ds = [d0, d1] ∧ d1.wt = !d0.wt

/-- The list without one of them. -/
def dropD (b : Bool) : List Du → List Du
  | [] => []
  | [d] => if d.wt = b then [] else [d]
  | d0 :: d1 :: r => if d0.wt = b then d1 :: r else [d0]

theorem whatV_iface (l : XL) (b : Bool) : ∃ t a, whatV l b = .iface t (.pointer (some a)) := by
  unfold whatV
  split
  · exact ⟨_, _, rfl⟩
  · exact ⟨_, _, rfl⟩

set_option maxRecDepth 100000 in
set_option maxHeartbeats 1000000 in
theorem qDrop_0 {l : XL} {st : St} {ex : Ext} {w : World} (hr : XRep l st ex w) (b : Bool) (hd : ex.due = []) :
    Calls Tryz.prog 103 #[.pointer (some ⟨l.ck, 1, none⟩), whatV l b] w fun e w' => e = .returned (.tuple #[]) ∧ XRep l st ex w' ∧ Kept l.own w w' := by
  have c9 : ∃ a c, w.cell? ⟨l.ck, 1, none⟩ = some (.slice a 0 c) := by
    have h := hr.c_que
    rw [hd] at h
    unfold qval at h
    cases hq : l.q with
    | none => rw [hq] at h; exact ⟨_, _, h⟩
    | some x => rw [hq] at h; exact ⟨_, _, h⟩
  obtain ⟨a, c, c9⟩ := c9
  obtain ⟨t0, p0, e0⟩ := whatV_iface l b
  rw [e0]
  clear e0
  go_enter Tryz.func103, Tryz.ntmps103
  go_wp2
  go_loop [11] (fun i => i = .int .i64 0) (fun _ => 0)
  case atStart => exact rfl
  case round =>
    subst hrel
    go_wp2
    (first | go_end0 | refine bodyPost_ret (results_none rfl _ _ _) rfl ?_)
    exact ⟨rfl, hr, Kept.refl _ _⟩

set_option maxRecDepth 100000 in
set_option maxHeartbeats 1000000 in
theorem qDrop_1 {l : XL} {st : St} {ex : Ext} {w : World} (hr : XRep l st ex w) (b : Bool) {d : Du} (hd : ex.due = [d]) :
    Calls Tryz.prog 103 #[.pointer (some ⟨l.ck, 1, none⟩), whatV l b] w fun e w' => e = .returned (.tuple #[]) ∧ XRep l st { ex with due := dropD b [d] } w' ∧ Kept l.own w w' := by
  obtain ⟨h, hq⟩ := hr.q_some (by rw [hd]; simp)
  obtain ⟨⟨c0, c1, c2⟩, _⟩ := hr.q_one hq hd
  have c9 := hr.c_q hq (n := 1) (by rw [hd]; rfl)
  have heq := fun W => eql_what l d.wt b W
  rw [duWhat_whatV] at c0
  obtain ⟨t0, p0, e0⟩ := whatV_iface l d.wt
  obtain ⟨t1, p1, e1⟩ := whatV_iface l b
  rw [e0] at c0
  rw [e0, e1] at heq
  rw [e1]
  clear e0 e1
  have hlt := hr.ck_q
  have hlh : h < w.heap.size := lt_of_cell c0
  by_cases hb : d.wt = b
  · have HF : Hid (dropD b [d] = []) := by simp [Hid, dropD, hb]
    have hbb : (d.wt == b) = true := by rw [hb]; simp
    rw [hbb] at heq
    clear hb hbb
    have HR : Hid _ := fun o => hRemove_1 (hr.alloc o) hd
    go_enter Tryz.func103, Tryz.ntmps103
    go_wp2
    go_loop [11] (fun i => i = .int .i64 0) (fun _ => 0)
    case atStart => exact rfl
    case round =>
      subst hrel
      go_wp2_with fail
      refine Calls.mono (HR.out _) ?_
      rintro e w1 ⟨rfl, hr1, k1⟩
      have k2 := ((Kept.refl l.own w).alloc _).trans k1
      go_wp2
      (first | go_end0 | refine bodyPost_ret (results_none rfl _ _ _) rfl ?_)
      exact ⟨rfl, hr1.as rfl (by rw [HF.out]), k2⟩
  · have HF : Hid (dropD b [d] = [d]) := by simp [Hid, dropD, hb]
    have hbb : (d.wt == b) = false := by simpa using hb
    rw [hbb] at heq
    clear hb hbb
    go_enter Tryz.func103, Tryz.ntmps103
    go_wp2
    go_loopw [11] (fun i wx => (i = .int .i64 0 ∧ wx = w) ∨ (i = .int .i64 1 ∧ XRep l st ex wx ∧ Kept l.own w wx)) (fun i _ => 1 - (intOf i).toNat)
    case atStart => exact Or.inl ⟨rfl, rfl⟩
    case round =>
      rcases hrel with ⟨rfl, rfl⟩ | ⟨rfl, hx, kx⟩
      · go_wp2
        exact ⟨Or.inr ⟨rfl, hr.alloc _, (Kept.refl _ _).alloc _⟩, by decide⟩
      · go_wp2
        (first | go_end0 | refine bodyPost_ret (results_none rfl _ _ _) rfl ?_)
        exact ⟨rfl, hx.as rfl (by rw [HF.out, ← hd]), kx⟩

set_option maxRecDepth 100000 in
set_option maxHeartbeats 1000000 in
theorem qDrop_2 {l : XL} {st : St} {ex : Ext} {w : World} (hr : XRep l st ex w) (b : Bool) {d0 d1 : Du} (hd : ex.due = [d0, d1]) (hne : d1.wt = !d0.wt) :
    Calls Tryz.prog 103 #[.pointer (some ⟨l.ck, 1, none⟩), whatV l b] w fun e w' => e = .returned (.tuple #[]) ∧ XRep l st { ex with due := dropD b [d0, d1] } w' ∧ Kept l.own w w' := by
  obtain ⟨h, hq⟩ := hr.q_some (by rw [hd]; simp)
  have c9 := hr.c_q hq (n := 2) (by rw [hd]; rfl)
  have heq := fun W => eql_what l d0.wt b W
  have heq1 := fun W => eql_what l d1.wt b W
  have HQ : Hid (∀ W, XRep l st ex W → (W.cell? ⟨h, 0, none⟩ = some (whatV l d0.wt) ∧ W.cell? ⟨h, 1, none⟩ = some (.int .i64 d0.at_) ∧ W.cell? ⟨h, 2, none⟩ = some (.int .i64 (duTurn d0))) ∧ (W.cell? ⟨h, 3, none⟩ = some (whatV l d1.wt) ∧ W.cell? ⟨h, 4, none⟩ = some (.int .i64 d1.at_) ∧ W.cell? ⟨h, 5, none⟩ = some (.int .i64 (duTurn d1)))) := fun W hW => ⟨(hW.q_two hq hd).1, (hW.q_two hq hd).2.1⟩
  obtain ⟨t0, p0, e0⟩ := whatV_iface l d0.wt
  obtain ⟨t1, p1, e1⟩ := whatV_iface l b
  obtain ⟨t2, p2, e2⟩ := whatV_iface l d1.wt
  rw [e0, e2] at HQ
  rw [e0, e1] at heq
  rw [e2, e1] at heq1
  rw [e1]
  clear e0 e1 e2
  have hlt := hr.ck_q
  by_cases hb : d0.wt = b
  · have HF : Hid (dropD b [d0, d1] = [d1]) := by simp [Hid, dropD, hb]
    have hbb : (d0.wt == b) = true := by rw [hb]; simp
    rw [hbb] at heq
    clear hb hbb
    have HR : Hid _ := fun o => hRemove_20 (hr.alloc o) hd
    obtain ⟨⟨c0, c1, c2⟩, ⟨c3, c4, c5⟩⟩ := HQ.out w hr
    have hlh : h < w.heap.size := lt_of_cell c0
    go_enter Tryz.func103, Tryz.ntmps103
    go_wp2
    go_loop [11] (fun i => i = .int .i64 0) (fun _ => 0)
    case atStart => exact rfl
    case round =>
      subst hrel
      go_wp2_with fail
      refine Calls.mono (HR.out _) ?_
      rintro e w1 ⟨rfl, hr1, k1⟩
      have k2 := ((Kept.refl l.own w).alloc _).trans k1
      go_wp2
      (first | go_end0 | refine bodyPost_ret (results_none rfl _ _ _) rfl ?_)
      exact ⟨rfl, hr1.as rfl (by rw [HF.out]), k2⟩
  · have HF : Hid (dropD b [d0, d1] = [d0]) := by simp [Hid, dropD, hb]
    have hbb : (d0.wt == b) = false := by simpa using hb
    have hbc : (d1.wt == b) = true := by
      rw [hne]
      revert hb
      cases d0.wt <;> cases b <;> simp
    rw [hbb] at heq
    rw [hbc] at heq1
    clear hb hbb hbc hne
    have HR : Hid (∀ W, XRep l st ex W → ∀ o, Calls Tryz.prog 109 #[.iface 180 (.pointer (some ⟨l.ck, 1, none⟩)), .int .i64 1] (W.alloc o) fun e w' => e = .returned (duVal l d1) ∧ XRep l st { ex with due := [d0] } w' ∧ Kept l.own (W.alloc o) w') := fun W hW o => hRemove_21 (hW.alloc o) hd
    go_enter Tryz.func103, Tryz.ntmps103
    go_wp2
    go_loopw [11] (fun i wx => (i = .int .i64 0 ∧ wx = w) ∨ (i = .int .i64 1 ∧ XRep l st ex wx ∧ Kept l.own w wx)) (fun i _ => 1 - (intOf i).toNat)
    case atStart => exact Or.inl ⟨rfl, rfl⟩
    case round =>
      rcases hrel with ⟨rfl, rfl⟩ | ⟨rfl, hx, kx⟩
      · obtain ⟨⟨c0, c1, c2⟩, ⟨c3, c4, c5⟩⟩ := HQ.out _ hr
        have hlh : h < wr.heap.size := lt_of_cell c0
        go_wp2
        exact ⟨Or.inr ⟨rfl, hr.alloc _, (Kept.refl _ _).alloc _⟩, by decide⟩
      · obtain ⟨⟨c0, c1, c2⟩, ⟨c3, c4, c5⟩⟩ := HQ.out _ hx
        have hlh : h < wr.heap.size := lt_of_cell c0
        go_wp2_with fail
        refine Calls.mono (HR.out _ hx _) ?_
        rintro e w1 ⟨rfl, hr1, k1⟩
        have k2 := (kx.alloc _).trans k1
        go_wp2
        (first | go_end0 | refine bodyPost_ret (results_none rfl _ _ _) rfl ?_)
        exact ⟨rfl, hr1.as rfl (by rw [HF.out]), k2⟩

theorem qDrop_any {l : XL} {st : St} {ex : Ext} {w : World} (hr : XRep l st ex w) (b : Bool) (hd : DsOk ex.due) :
    Calls Tryz.prog 103 #[.pointer (some ⟨l.ck, 1, none⟩), whatV l b] w fun e w' => e = .returned (.tuple #[]) ∧ XRep l st { ex with due := dropD b ex.due } w' ∧ Kept l.own w w' := by
  rcases hd with hd | ⟨d, hd⟩ | ⟨d0, d1, hd, hne⟩
  · exact (qDrop_0 hr b hd).mono fun e w' ⟨h1, h2, h3⟩ => ⟨h1, h2.as rfl (by rw [hd]; show ex = { ex with due := [] }; rw [← hd]), h3⟩
  · rw [hd]; exact qDrop_1 hr b hd
  · rw [hd]; exact qDrop_2 hr b hd hne

theorem dropD_len (b : Bool) {ds : List Du} (h : DsOk ds) : dropD b ds = [] ∨ ∃ d, dropD b ds = [d] ∧ d.wt = !b := by
  rcases h with rfl | ⟨d, rfl⟩ | ⟨d0, d1, rfl, hne⟩
  · exact Or.inl rfl
  · simp only [dropD]
    by_cases e : d.wt = b
    · rw [if_pos e]; exact Or.inl rfl
    · rw [if_neg e]; exact Or.inr ⟨d, rfl, by revert e; cases d.wt <;> cases b <;> simp⟩
  · simp only [dropD]
    by_cases e : d0.wt = b
    · rw [if_pos e]; exact Or.inr ⟨d1, rfl, by rw [hne, e]⟩
    · rw [if_neg e]; exact Or.inr ⟨d0, rfl, by revert e; cases d0.wt <;> cases b <;> simp⟩

/-- A thing is put into the list, at a time. -/
def putD (ds : List Du) (d : Du) : List Du := pushD (dropD d.wt ds) d

theorem duVal_eq (l : XL) (b : Bool) (t : Int) : duVal l ⟨b, t⟩ = .iface 178 (.agg #[whatV l b, .int .i64 t, .int .i64 (duTurn ⟨b, t⟩)]) := rfl

set_option maxRecDepth 100000 in
set_option maxHeartbeats 1000000 in
theorem qPut_any {l : XL} {st : St} {ex : Ext} {w : World} (hr : XRep l st ex w) (b : Bool) (t u : Int) (hu : u = duTurn ⟨b, t⟩) (hd : DsOk ex.due) :
    Calls Tryz.prog 104 #[.pointer (some ⟨l.ck, 1, none⟩), whatV l b, .int .i64 t, .int .i64 u] w fun e w' => e = .returned (.tuple #[]) ∧ ∃ l', Grew l l' w ∧ XRep l' st { ex with due := putD ex.due ⟨b, t⟩ } w' ∧ Kept l.own w w' := by
  have HD : Hid _ := qDrop_any hr b hd
  have HP : Hid (∀ W, XRep l st { ex with due := dropD b ex.due } W → Calls Tryz.prog 110 #[.iface 180 (.pointer (some ⟨l.ck, 1, none⟩)), duVal l ⟨b, t⟩] W fun e w' => e = .returned (.tuple #[]) ∧ ∃ l', Grew l l' W ∧ XRep l' st { ex with due := putD ex.due ⟨b, t⟩ } w' ∧ Kept l.own W w') := fun W hW => by
    unfold putD
    show Calls _ _ _ _ fun e w' => _ ∧ ∃ l', _ ∧ XRep l' st { ex with due := pushD (dropD b ex.due) ⟨b, t⟩ } w' ∧ _
    rcases dropD_len b hd with e | ⟨d, e, _⟩
    · rw [e]; exact hPush_0 hW e ⟨b, t⟩
    · rw [e]; exact hPush_1 hW e ⟨b, t⟩
  rw [duVal_eq, ← hu] at HP
  clear hu
  obtain ⟨t0, p0, e0⟩ := whatV_iface l b
  rw [e0] at HP HD ⊢
  clear e0
  go_enter Tryz.func104, Tryz.ntmps104
  go_wp2_with fail
  refine Calls.mono HD.out ?_
  rintro e w1 ⟨rfl, hr1, k1⟩
  go_wp2_with fail
  refine Calls.mono (HP.out _ hr1) ?_
  rintro e w2 ⟨rfl, l', gl, hr2, k2⟩
  have k3 := k1.trans k2
  have gl2 : Grew l l' w := by
    obtain ⟨q, cap, e, h⟩ := gl
    exact ⟨q, cap, e, fun x hx => (h x hx).imp id (fun y => Nat.le_trans k1.size y)⟩
  go_wp2
  (first | go_end0 | refine bodyPost_ret (results_none rfl _ _ _) rfl ?_)
  exact ⟨rfl, l', gl2, hr2, k3⟩

set_option maxRecDepth 100000 in
set_option maxHeartbeats 1000000 in
theorem qTake_none {l : XL} {st : St} {ex : Ext} {w : World} (hr : XRep l st ex w) (t : Int) (hd : ex.due = [] ∨ ∃ d r, ex.due = d :: r ∧ t < d.at_) (hl : ex.due.length ≤ 2) :
    Calls Tryz.prog 88 #[.pointer (some ⟨l.ck, 1, none⟩), .int .i64 t] w fun e w' => e = .returned (.tuple #[.nilIface, .bool false]) ∧ w' = w := by
  rcases hd with hd | ⟨d, r, hd, hlt⟩
  · have c9 : ∃ a c, w.cell? ⟨l.ck, 1, none⟩ = some (.slice a 0 c) := by
      have h := hr.c_que
      rw [hd] at h
      unfold qval at h
      cases hq : l.q with
      | none => rw [hq] at h; exact ⟨_, _, h⟩
      | some x => rw [hq] at h; exact ⟨_, _, h⟩
    obtain ⟨a, c, c9⟩ := c9
    go_enter Tryz.func88, Tryz.ntmps88
    go_wp2
    go_ret2
    exact ⟨rfl, rfl⟩
  · obtain ⟨h, hq⟩ := hr.q_some (by rw [hd]; simp)
    have c1 := (hr.q_cell hq 1 (.int .i64 d.at_) (by rw [hd]; rfl)).1
    obtain ⟨n, hn⟩ : ∃ n, ex.due.length = n := ⟨_, rfl⟩
    have c9 := hr.c_q hq (n := n) hn
    have hn0 : 0 < n := by rw [← hn, hd]; simp
    have hn2 : n ≤ 2 := by omega
    have hnz : ((n : Int) == 0) = false := beq_eq_false_iff_ne.2 (by omega)
    have hn0' : (0 : Int) < (n : Int) := by omega
    clear hn
    go_enter Tryz.func88, Tryz.ntmps88
    go_wp2
    go_ret2
    exact ⟨rfl, rfl⟩

set_option maxRecDepth 100000 in
set_option maxHeartbeats 1000000 in
theorem qTake_some {l : XL} {st : St} {ex : Ext} {w : World} (hr : XRep l st ex w) (t : Int) {d : Du} {r : List Du} (hd : ex.due = d :: r) (hle : d.at_ ≤ t) (hl : ex.due.length ≤ 2) :
    Calls Tryz.prog 88 #[.pointer (some ⟨l.ck, 1, none⟩), .int .i64 t] w fun e w' => e = .returned (.tuple #[whatV l d.wt, .bool true]) ∧ XRep l st { ex with due := r } w' ∧ Kept l.own w w' := by
  have HP : Hid (Calls Tryz.prog 101 #[.iface 180 (.pointer (some ⟨l.ck, 1, none⟩))] w fun e w' => e = .returned (duVal l d) ∧ XRep l st { ex with due := r } w' ∧ Kept l.own w w') := by
    unfold Hid
    match r, hd with
    | [], hd => exact hPop_1 hr hd
    | [d1], hd => exact hPop_2 hr hd
    | d1 :: d2 :: r', hd => rw [hd] at hl; simp at hl
  obtain ⟨h, hq⟩ := hr.q_some (by rw [hd]; simp)
  have c1 := (hr.q_cell hq 1 (.int .i64 d.at_) (by rw [hd]; rfl)).1
  obtain ⟨n, hn⟩ : ∃ n, ex.due.length = n := ⟨_, rfl⟩
  have c9 := hr.c_q hq (n := n) hn
  have hn0 : 0 < n := by rw [← hn, hd]; simp
  have hn2 : n ≤ 2 := by omega
  have hnz : ((n : Int) == 0) = false := beq_eq_false_iff_ne.2 (by omega)
  have hn0' : (0 : Int) < (n : Int) := by omega
  have hta := assert_ent
  have hfd := field_ent
  unfold duVal at HP
  rw [duWhat_whatV] at HP
  obtain ⟨t0, p0, e0⟩ := whatV_iface l d.wt
  rw [e0] at HP ⊢
  clear hn e0
  go_enter Tryz.func88, Tryz.ntmps88
  go_wp2_with fail
  refine Calls.mono HP.out ?_
  rintro e w1 ⟨rfl, hr1, k1⟩
  go_wp2
  go_ret2
  exact ⟨rfl, hr1, k1⟩

end Go.Proofs.YtommhbidkoeifaaGreat
