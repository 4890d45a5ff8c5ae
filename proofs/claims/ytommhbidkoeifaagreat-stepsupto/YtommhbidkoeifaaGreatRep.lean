/- The document's board in memory: its 156 cells and two rows of bytes, by the plain state. -/
import Derived.Test.YtommhbidkoeifaaGreatMem
import Derived.Test.YtommhbidkoeifaaGreatLaw
namespace Go.Proofs.YtommhbidkoeifaaGreat
open Go.RowKit

/-- Where a board lies: its own block, its banks' blocks and their capacities. -/
structure Lay where
  g : Nat
  p : Nat
  q : Nat
  cp : Nat
  cq : Nat

/-- The cells of a board. -/
def encF (L : Lay) (st : St) : Nat → Value
  | 128 => .slice (some ⟨L.p, 0, none⟩) 64 L.cp
  | 129 => .slice (some ⟨L.q, 0, none⟩) 64 L.cq
  | 130 => .int .i64 st.bank
  | 131 => .int .i64 st.s0
  | 132 => .int .i64 st.s1
  | 133 => .int .i64 st.cause
  | 134 => .int .i64 st.left
  | 135 => .bool st.down
  | 136 => .int .i64 st.a
  | 137 => .int .i64 st.x
  | 138 => .int .i64 st.pc
  | 139 => .bool st.zero
  | 140 => .bool st.carry
  | 141 => .int .i64 st.op
  | 142 => .int .i64 st.opd
  | 143 => .int .i64 st.phase
  | 144 => .int .i64 st.period
  | 145 => .int .i64 st.count
  | 146 => .bool st.flag
  | 147 => .int .i64 st.age
  | 148 => .int .i64 st.window
  | 149 => .bool st.windowed
  | 150 => .bool st.key
  | 151 => .int .u8 st.out
  | 152 => .int .u8 st.inp
  | 153 => .bool st.opn
  | 154 => .int .i64 st.place
  | 155 => .int .i64 st.rst
  | i => .int .u8 (st.mem i)

/-- The document's board lies there, in this state. -/
structure Rep (L : Lay) (st : St) (w : World) : Prop where
  brd : Raw L.g 156 (encF L st) w
  r0 : Raw L.p 64 (fun i => .int .u8 (st.b0 i)) w
  r1 : Raw L.q 64 (fun i => .int .u8 (st.b1 i)) w
  gp : L.g ≠ L.p
  gq : L.g ≠ L.q
  pq : L.p ≠ L.q

/-- The blocks of a board. -/
def Lay.own (L : Lay) (k : Nat) : Prop := k = L.g ∨ k = L.p ∨ k = L.q

theorem Rep.kept {S : Nat → Prop} {L : Lay} {st : St} {w w' : World} (h : Rep L st w) (hk : Kept S w w') (hS : ∀ k, L.own k → ¬ S k) : Rep L st w' :=
  ⟨h.brd.kept hk (h.brd.lt (by omega)) (hS _ (Or.inl rfl)), h.r0.kept hk (h.r0.lt (by omega)) (hS _ (Or.inr (Or.inl rfl))), h.r1.kept hk (h.r1.lt (by omega)) (hS _ (Or.inr (Or.inr rfl))), h.gp, h.gq, h.pq⟩

theorem Rep.alloc {L : Lay} {st : St} {w : World} (h : Rep L st w) (o : Obj) : Rep L st (w.alloc o) := h.kept (S := fun _ => False) ((Kept.refl _ _).alloc o) (fun _ _ x => x)
theorem Rep.drewN {L : Lay} {st : St} {w : World} (h : Rep L st w) (n : Nat) : Rep L st (w.drewN n) := h.kept (S := fun _ => False) ((Kept.refl _ _).drewN n) (fun _ _ x => x)
theorem Rep.drew {L : Lay} {st : St} {w : World} (h : Rep L st w) : Rep L st w.drew := h.kept (S := fun _ => False) ((Kept.refl _ _).drew) (fun _ _ x => x)
theorem Rep.below {L : Lay} {st : St} {w w' : World} (h : Rep L st w) (hb : Below w.heap.size w w') : Rep L st w' := h.kept (S := fun _ => False) (Kept.below hb) (fun _ _ x => x)

theorem Rep.other {L : Lay} {st : St} {w : World} (h : Rep L st w) {b j : Nat} (hb : ¬ L.own b) (v : Value) : Rep L st (w.setCell ⟨b, j, none⟩ v) :=
  ⟨h.brd.other (fun e => hb (Or.inl e)) v, h.r0.other (fun e => hb (Or.inr (Or.inl e))) v, h.r1.other (fun e => hb (Or.inr (Or.inr e))) v, h.gp, h.gq, h.pq⟩

theorem Rep.lt {L : Lay} {st : St} {w : World} (h : Rep L st w) : L.g < w.heap.size ∧ L.p < w.heap.size ∧ L.q < w.heap.size := ⟨h.brd.lt (by omega), h.r0.lt (by omega), h.r1.lt (by omega)⟩

theorem Rep.put {L : Lay} {st st' : St} {w : World} (h : Rep L st w) (k : Nat) (hk : k < 156) (v : Value) (he : ∀ i, i < 156 → encF L st' i = if i = k then v else encF L st i) (h0 : st'.b0 = st.b0) (h1 : st'.b1 = st.b1) : Rep L st' (w.setCell ⟨L.g, k, none⟩ v) :=
  ⟨h.brd.set hk v he, by rw [h0]; exact h.r0.other h.gp v, by rw [h1]; exact h.r1.other h.gq v, h.gp, h.gq, h.pq⟩

theorem Rep.set_mem {L : Lay} {st : St} {w : World} (h : Rep L st w) (k : Nat) (hk : k < 128) (v : Int) : Rep L { st with mem := upd st.mem k v } (w.setCell ⟨L.g, k, none⟩ (.int .u8 v)) :=
  h.put k (by omega) _ (fun i hi => by
    by_cases e : i = k
    · subst e
      rw [if_pos rfl]
      unfold encF
      split <;> first | omega | simp [upd]
    · rw [if_neg e]
      unfold encF
      split <;> simp [upd, e]) rfl rfl

theorem Rep.set_b0 {L : Lay} {st : St} {w : World} (h : Rep L st w) (k : Nat) (hk : k < 64) (v : Int) : Rep L { st with b0 := upd st.b0 k v } (w.setCell ⟨L.p, k, none⟩ (.int .u8 v)) :=
  ⟨h.brd.other (Ne.symm h.gp) _, h.r0.set hk _ (fun i _ => by by_cases e : i = k <;> simp [upd, e]), h.r1.other h.pq _, h.gp, h.gq, h.pq⟩

theorem Rep.set_b1 {L : Lay} {st : St} {w : World} (h : Rep L st w) (k : Nat) (hk : k < 64) (v : Int) : Rep L { st with b1 := upd st.b1 k v } (w.setCell ⟨L.q, k, none⟩ (.int .u8 v)) :=
  ⟨h.brd.other (Ne.symm h.gq) _, h.r0.other (Ne.symm h.pq) _, h.r1.set hk _ (fun i _ => by by_cases e : i = k <;> simp [upd, e]), h.gp, h.gq, h.pq⟩

theorem Rep.c_mem {L : Lay} {st : St} {w : World} (h : Rep L st w) (k : Nat) (hk : k < 128) : w.cell? ⟨L.g, k, none⟩ = some (.int .u8 (st.mem k)) := by
  have h1 := (h.brd k (by omega)).1
  rw [h1]
  unfold encF
  split <;> first | omega | rfl

theorem Rep.c_p {L : Lay} {st : St} {w : World} (h : Rep L st w) : w.cell? ⟨L.g, 128, none⟩ = some (.slice (some ⟨L.p, 0, none⟩) 64 L.cp) := (h.brd 128 (by omega)).1
theorem Rep.c_q {L : Lay} {st : St} {w : World} (h : Rep L st w) : w.cell? ⟨L.g, 129, none⟩ = some (.slice (some ⟨L.q, 0, none⟩) 64 L.cq) := (h.brd 129 (by omega)).1
theorem Rep.fz {L : Lay} {st : St} {w : World} (h : Rep L st w) (k : Nat) (hk : k < 156) : w.frozen? ⟨L.g, k, none⟩ = false := (h.brd k hk).2

theorem Rep.c_bank {L : Lay} {st : St} {w : World} (h : Rep L st w) : w.cell? ⟨L.g, 130, none⟩ = some (.int .i64 st.bank) := (h.brd 130 (by omega)).1
theorem Rep.f_bank {L : Lay} {st : St} {w : World} (h : Rep L st w) : w.frozen? ⟨L.g, 130, none⟩ = false := (h.brd 130 (by omega)).2
theorem Rep.set_bank {L : Lay} {st : St} {w : World} (h : Rep L st w) (v : Int) : Rep L { st with bank := v } (w.setCell ⟨L.g, 130, none⟩ (.int .i64 v)) :=
  h.put 130 (by omega) _ (fun i hi => by
    by_cases e : i = 130
    · subst e; rfl
    · rw [if_neg e]; unfold encF; split <;> first | rfl | exact absurd rfl e) rfl rfl

theorem Rep.c_s0 {L : Lay} {st : St} {w : World} (h : Rep L st w) : w.cell? ⟨L.g, 131, none⟩ = some (.int .i64 st.s0) := (h.brd 131 (by omega)).1
theorem Rep.f_s0 {L : Lay} {st : St} {w : World} (h : Rep L st w) : w.frozen? ⟨L.g, 131, none⟩ = false := (h.brd 131 (by omega)).2
theorem Rep.set_s0 {L : Lay} {st : St} {w : World} (h : Rep L st w) (v : Int) : Rep L { st with s0 := v } (w.setCell ⟨L.g, 131, none⟩ (.int .i64 v)) :=
  h.put 131 (by omega) _ (fun i hi => by
    by_cases e : i = 131
    · subst e; rfl
    · rw [if_neg e]; unfold encF; split <;> first | rfl | exact absurd rfl e) rfl rfl

theorem Rep.c_s1 {L : Lay} {st : St} {w : World} (h : Rep L st w) : w.cell? ⟨L.g, 132, none⟩ = some (.int .i64 st.s1) := (h.brd 132 (by omega)).1
theorem Rep.f_s1 {L : Lay} {st : St} {w : World} (h : Rep L st w) : w.frozen? ⟨L.g, 132, none⟩ = false := (h.brd 132 (by omega)).2
theorem Rep.set_s1 {L : Lay} {st : St} {w : World} (h : Rep L st w) (v : Int) : Rep L { st with s1 := v } (w.setCell ⟨L.g, 132, none⟩ (.int .i64 v)) :=
  h.put 132 (by omega) _ (fun i hi => by
    by_cases e : i = 132
    · subst e; rfl
    · rw [if_neg e]; unfold encF; split <;> first | rfl | exact absurd rfl e) rfl rfl

theorem Rep.c_cause {L : Lay} {st : St} {w : World} (h : Rep L st w) : w.cell? ⟨L.g, 133, none⟩ = some (.int .i64 st.cause) := (h.brd 133 (by omega)).1
theorem Rep.f_cause {L : Lay} {st : St} {w : World} (h : Rep L st w) : w.frozen? ⟨L.g, 133, none⟩ = false := (h.brd 133 (by omega)).2
theorem Rep.set_cause {L : Lay} {st : St} {w : World} (h : Rep L st w) (v : Int) : Rep L { st with cause := v } (w.setCell ⟨L.g, 133, none⟩ (.int .i64 v)) :=
  h.put 133 (by omega) _ (fun i hi => by
    by_cases e : i = 133
    · subst e; rfl
    · rw [if_neg e]; unfold encF; split <;> first | rfl | exact absurd rfl e) rfl rfl

theorem Rep.c_left {L : Lay} {st : St} {w : World} (h : Rep L st w) : w.cell? ⟨L.g, 134, none⟩ = some (.int .i64 st.left) := (h.brd 134 (by omega)).1
theorem Rep.f_left {L : Lay} {st : St} {w : World} (h : Rep L st w) : w.frozen? ⟨L.g, 134, none⟩ = false := (h.brd 134 (by omega)).2
theorem Rep.set_left {L : Lay} {st : St} {w : World} (h : Rep L st w) (v : Int) : Rep L { st with left := v } (w.setCell ⟨L.g, 134, none⟩ (.int .i64 v)) :=
  h.put 134 (by omega) _ (fun i hi => by
    by_cases e : i = 134
    · subst e; rfl
    · rw [if_neg e]; unfold encF; split <;> first | rfl | exact absurd rfl e) rfl rfl

theorem Rep.c_down {L : Lay} {st : St} {w : World} (h : Rep L st w) : w.cell? ⟨L.g, 135, none⟩ = some (.bool st.down) := (h.brd 135 (by omega)).1
theorem Rep.f_down {L : Lay} {st : St} {w : World} (h : Rep L st w) : w.frozen? ⟨L.g, 135, none⟩ = false := (h.brd 135 (by omega)).2
theorem Rep.set_down {L : Lay} {st : St} {w : World} (h : Rep L st w) (v : Bool) : Rep L { st with down := v } (w.setCell ⟨L.g, 135, none⟩ (.bool v)) :=
  h.put 135 (by omega) _ (fun i hi => by
    by_cases e : i = 135
    · subst e; rfl
    · rw [if_neg e]; unfold encF; split <;> first | rfl | exact absurd rfl e) rfl rfl

theorem Rep.c_a {L : Lay} {st : St} {w : World} (h : Rep L st w) : w.cell? ⟨L.g, 136, none⟩ = some (.int .i64 st.a) := (h.brd 136 (by omega)).1
theorem Rep.f_a {L : Lay} {st : St} {w : World} (h : Rep L st w) : w.frozen? ⟨L.g, 136, none⟩ = false := (h.brd 136 (by omega)).2
theorem Rep.set_a {L : Lay} {st : St} {w : World} (h : Rep L st w) (v : Int) : Rep L { st with a := v } (w.setCell ⟨L.g, 136, none⟩ (.int .i64 v)) :=
  h.put 136 (by omega) _ (fun i hi => by
    by_cases e : i = 136
    · subst e; rfl
    · rw [if_neg e]; unfold encF; split <;> first | rfl | exact absurd rfl e) rfl rfl

theorem Rep.c_x {L : Lay} {st : St} {w : World} (h : Rep L st w) : w.cell? ⟨L.g, 137, none⟩ = some (.int .i64 st.x) := (h.brd 137 (by omega)).1
theorem Rep.f_x {L : Lay} {st : St} {w : World} (h : Rep L st w) : w.frozen? ⟨L.g, 137, none⟩ = false := (h.brd 137 (by omega)).2
theorem Rep.set_x {L : Lay} {st : St} {w : World} (h : Rep L st w) (v : Int) : Rep L { st with x := v } (w.setCell ⟨L.g, 137, none⟩ (.int .i64 v)) :=
  h.put 137 (by omega) _ (fun i hi => by
    by_cases e : i = 137
    · subst e; rfl
    · rw [if_neg e]; unfold encF; split <;> first | rfl | exact absurd rfl e) rfl rfl

theorem Rep.c_pc {L : Lay} {st : St} {w : World} (h : Rep L st w) : w.cell? ⟨L.g, 138, none⟩ = some (.int .i64 st.pc) := (h.brd 138 (by omega)).1
theorem Rep.f_pc {L : Lay} {st : St} {w : World} (h : Rep L st w) : w.frozen? ⟨L.g, 138, none⟩ = false := (h.brd 138 (by omega)).2
theorem Rep.set_pc {L : Lay} {st : St} {w : World} (h : Rep L st w) (v : Int) : Rep L { st with pc := v } (w.setCell ⟨L.g, 138, none⟩ (.int .i64 v)) :=
  h.put 138 (by omega) _ (fun i hi => by
    by_cases e : i = 138
    · subst e; rfl
    · rw [if_neg e]; unfold encF; split <;> first | rfl | exact absurd rfl e) rfl rfl

theorem Rep.c_zero {L : Lay} {st : St} {w : World} (h : Rep L st w) : w.cell? ⟨L.g, 139, none⟩ = some (.bool st.zero) := (h.brd 139 (by omega)).1
theorem Rep.f_zero {L : Lay} {st : St} {w : World} (h : Rep L st w) : w.frozen? ⟨L.g, 139, none⟩ = false := (h.brd 139 (by omega)).2
theorem Rep.set_zero {L : Lay} {st : St} {w : World} (h : Rep L st w) (v : Bool) : Rep L { st with zero := v } (w.setCell ⟨L.g, 139, none⟩ (.bool v)) :=
  h.put 139 (by omega) _ (fun i hi => by
    by_cases e : i = 139
    · subst e; rfl
    · rw [if_neg e]; unfold encF; split <;> first | rfl | exact absurd rfl e) rfl rfl

theorem Rep.c_carry {L : Lay} {st : St} {w : World} (h : Rep L st w) : w.cell? ⟨L.g, 140, none⟩ = some (.bool st.carry) := (h.brd 140 (by omega)).1
theorem Rep.f_carry {L : Lay} {st : St} {w : World} (h : Rep L st w) : w.frozen? ⟨L.g, 140, none⟩ = false := (h.brd 140 (by omega)).2
theorem Rep.set_carry {L : Lay} {st : St} {w : World} (h : Rep L st w) (v : Bool) : Rep L { st with carry := v } (w.setCell ⟨L.g, 140, none⟩ (.bool v)) :=
  h.put 140 (by omega) _ (fun i hi => by
    by_cases e : i = 140
    · subst e; rfl
    · rw [if_neg e]; unfold encF; split <;> first | rfl | exact absurd rfl e) rfl rfl

theorem Rep.c_op {L : Lay} {st : St} {w : World} (h : Rep L st w) : w.cell? ⟨L.g, 141, none⟩ = some (.int .i64 st.op) := (h.brd 141 (by omega)).1
theorem Rep.f_op {L : Lay} {st : St} {w : World} (h : Rep L st w) : w.frozen? ⟨L.g, 141, none⟩ = false := (h.brd 141 (by omega)).2
theorem Rep.set_op {L : Lay} {st : St} {w : World} (h : Rep L st w) (v : Int) : Rep L { st with op := v } (w.setCell ⟨L.g, 141, none⟩ (.int .i64 v)) :=
  h.put 141 (by omega) _ (fun i hi => by
    by_cases e : i = 141
    · subst e; rfl
    · rw [if_neg e]; unfold encF; split <;> first | rfl | exact absurd rfl e) rfl rfl

theorem Rep.c_opd {L : Lay} {st : St} {w : World} (h : Rep L st w) : w.cell? ⟨L.g, 142, none⟩ = some (.int .i64 st.opd) := (h.brd 142 (by omega)).1
theorem Rep.f_opd {L : Lay} {st : St} {w : World} (h : Rep L st w) : w.frozen? ⟨L.g, 142, none⟩ = false := (h.brd 142 (by omega)).2
theorem Rep.set_opd {L : Lay} {st : St} {w : World} (h : Rep L st w) (v : Int) : Rep L { st with opd := v } (w.setCell ⟨L.g, 142, none⟩ (.int .i64 v)) :=
  h.put 142 (by omega) _ (fun i hi => by
    by_cases e : i = 142
    · subst e; rfl
    · rw [if_neg e]; unfold encF; split <;> first | rfl | exact absurd rfl e) rfl rfl

theorem Rep.c_phase {L : Lay} {st : St} {w : World} (h : Rep L st w) : w.cell? ⟨L.g, 143, none⟩ = some (.int .i64 st.phase) := (h.brd 143 (by omega)).1
theorem Rep.f_phase {L : Lay} {st : St} {w : World} (h : Rep L st w) : w.frozen? ⟨L.g, 143, none⟩ = false := (h.brd 143 (by omega)).2
theorem Rep.set_phase {L : Lay} {st : St} {w : World} (h : Rep L st w) (v : Int) : Rep L { st with phase := v } (w.setCell ⟨L.g, 143, none⟩ (.int .i64 v)) :=
  h.put 143 (by omega) _ (fun i hi => by
    by_cases e : i = 143
    · subst e; rfl
    · rw [if_neg e]; unfold encF; split <;> first | rfl | exact absurd rfl e) rfl rfl

theorem Rep.c_period {L : Lay} {st : St} {w : World} (h : Rep L st w) : w.cell? ⟨L.g, 144, none⟩ = some (.int .i64 st.period) := (h.brd 144 (by omega)).1
theorem Rep.f_period {L : Lay} {st : St} {w : World} (h : Rep L st w) : w.frozen? ⟨L.g, 144, none⟩ = false := (h.brd 144 (by omega)).2
theorem Rep.set_period {L : Lay} {st : St} {w : World} (h : Rep L st w) (v : Int) : Rep L { st with period := v } (w.setCell ⟨L.g, 144, none⟩ (.int .i64 v)) :=
  h.put 144 (by omega) _ (fun i hi => by
    by_cases e : i = 144
    · subst e; rfl
    · rw [if_neg e]; unfold encF; split <;> first | rfl | exact absurd rfl e) rfl rfl

theorem Rep.c_count {L : Lay} {st : St} {w : World} (h : Rep L st w) : w.cell? ⟨L.g, 145, none⟩ = some (.int .i64 st.count) := (h.brd 145 (by omega)).1
theorem Rep.f_count {L : Lay} {st : St} {w : World} (h : Rep L st w) : w.frozen? ⟨L.g, 145, none⟩ = false := (h.brd 145 (by omega)).2
theorem Rep.set_count {L : Lay} {st : St} {w : World} (h : Rep L st w) (v : Int) : Rep L { st with count := v } (w.setCell ⟨L.g, 145, none⟩ (.int .i64 v)) :=
  h.put 145 (by omega) _ (fun i hi => by
    by_cases e : i = 145
    · subst e; rfl
    · rw [if_neg e]; unfold encF; split <;> first | rfl | exact absurd rfl e) rfl rfl

theorem Rep.c_flag {L : Lay} {st : St} {w : World} (h : Rep L st w) : w.cell? ⟨L.g, 146, none⟩ = some (.bool st.flag) := (h.brd 146 (by omega)).1
theorem Rep.f_flag {L : Lay} {st : St} {w : World} (h : Rep L st w) : w.frozen? ⟨L.g, 146, none⟩ = false := (h.brd 146 (by omega)).2
theorem Rep.set_flag {L : Lay} {st : St} {w : World} (h : Rep L st w) (v : Bool) : Rep L { st with flag := v } (w.setCell ⟨L.g, 146, none⟩ (.bool v)) :=
  h.put 146 (by omega) _ (fun i hi => by
    by_cases e : i = 146
    · subst e; rfl
    · rw [if_neg e]; unfold encF; split <;> first | rfl | exact absurd rfl e) rfl rfl

theorem Rep.c_age {L : Lay} {st : St} {w : World} (h : Rep L st w) : w.cell? ⟨L.g, 147, none⟩ = some (.int .i64 st.age) := (h.brd 147 (by omega)).1
theorem Rep.f_age {L : Lay} {st : St} {w : World} (h : Rep L st w) : w.frozen? ⟨L.g, 147, none⟩ = false := (h.brd 147 (by omega)).2
theorem Rep.set_age {L : Lay} {st : St} {w : World} (h : Rep L st w) (v : Int) : Rep L { st with age := v } (w.setCell ⟨L.g, 147, none⟩ (.int .i64 v)) :=
  h.put 147 (by omega) _ (fun i hi => by
    by_cases e : i = 147
    · subst e; rfl
    · rw [if_neg e]; unfold encF; split <;> first | rfl | exact absurd rfl e) rfl rfl

theorem Rep.c_window {L : Lay} {st : St} {w : World} (h : Rep L st w) : w.cell? ⟨L.g, 148, none⟩ = some (.int .i64 st.window) := (h.brd 148 (by omega)).1
theorem Rep.f_window {L : Lay} {st : St} {w : World} (h : Rep L st w) : w.frozen? ⟨L.g, 148, none⟩ = false := (h.brd 148 (by omega)).2
theorem Rep.set_window {L : Lay} {st : St} {w : World} (h : Rep L st w) (v : Int) : Rep L { st with window := v } (w.setCell ⟨L.g, 148, none⟩ (.int .i64 v)) :=
  h.put 148 (by omega) _ (fun i hi => by
    by_cases e : i = 148
    · subst e; rfl
    · rw [if_neg e]; unfold encF; split <;> first | rfl | exact absurd rfl e) rfl rfl

theorem Rep.c_windowed {L : Lay} {st : St} {w : World} (h : Rep L st w) : w.cell? ⟨L.g, 149, none⟩ = some (.bool st.windowed) := (h.brd 149 (by omega)).1
theorem Rep.f_windowed {L : Lay} {st : St} {w : World} (h : Rep L st w) : w.frozen? ⟨L.g, 149, none⟩ = false := (h.brd 149 (by omega)).2
theorem Rep.set_windowed {L : Lay} {st : St} {w : World} (h : Rep L st w) (v : Bool) : Rep L { st with windowed := v } (w.setCell ⟨L.g, 149, none⟩ (.bool v)) :=
  h.put 149 (by omega) _ (fun i hi => by
    by_cases e : i = 149
    · subst e; rfl
    · rw [if_neg e]; unfold encF; split <;> first | rfl | exact absurd rfl e) rfl rfl

theorem Rep.c_key {L : Lay} {st : St} {w : World} (h : Rep L st w) : w.cell? ⟨L.g, 150, none⟩ = some (.bool st.key) := (h.brd 150 (by omega)).1
theorem Rep.f_key {L : Lay} {st : St} {w : World} (h : Rep L st w) : w.frozen? ⟨L.g, 150, none⟩ = false := (h.brd 150 (by omega)).2
theorem Rep.set_key {L : Lay} {st : St} {w : World} (h : Rep L st w) (v : Bool) : Rep L { st with key := v } (w.setCell ⟨L.g, 150, none⟩ (.bool v)) :=
  h.put 150 (by omega) _ (fun i hi => by
    by_cases e : i = 150
    · subst e; rfl
    · rw [if_neg e]; unfold encF; split <;> first | rfl | exact absurd rfl e) rfl rfl

theorem Rep.c_out {L : Lay} {st : St} {w : World} (h : Rep L st w) : w.cell? ⟨L.g, 151, none⟩ = some (.int .u8 st.out) := (h.brd 151 (by omega)).1
theorem Rep.f_out {L : Lay} {st : St} {w : World} (h : Rep L st w) : w.frozen? ⟨L.g, 151, none⟩ = false := (h.brd 151 (by omega)).2
theorem Rep.set_out {L : Lay} {st : St} {w : World} (h : Rep L st w) (v : Int) : Rep L { st with out := v } (w.setCell ⟨L.g, 151, none⟩ (.int .u8 v)) :=
  h.put 151 (by omega) _ (fun i hi => by
    by_cases e : i = 151
    · subst e; rfl
    · rw [if_neg e]; unfold encF; split <;> first | rfl | exact absurd rfl e) rfl rfl

theorem Rep.c_inp {L : Lay} {st : St} {w : World} (h : Rep L st w) : w.cell? ⟨L.g, 152, none⟩ = some (.int .u8 st.inp) := (h.brd 152 (by omega)).1
theorem Rep.f_inp {L : Lay} {st : St} {w : World} (h : Rep L st w) : w.frozen? ⟨L.g, 152, none⟩ = false := (h.brd 152 (by omega)).2
theorem Rep.set_inp {L : Lay} {st : St} {w : World} (h : Rep L st w) (v : Int) : Rep L { st with inp := v } (w.setCell ⟨L.g, 152, none⟩ (.int .u8 v)) :=
  h.put 152 (by omega) _ (fun i hi => by
    by_cases e : i = 152
    · subst e; rfl
    · rw [if_neg e]; unfold encF; split <;> first | rfl | exact absurd rfl e) rfl rfl

theorem Rep.c_opn {L : Lay} {st : St} {w : World} (h : Rep L st w) : w.cell? ⟨L.g, 153, none⟩ = some (.bool st.opn) := (h.brd 153 (by omega)).1
theorem Rep.f_opn {L : Lay} {st : St} {w : World} (h : Rep L st w) : w.frozen? ⟨L.g, 153, none⟩ = false := (h.brd 153 (by omega)).2
theorem Rep.set_opn {L : Lay} {st : St} {w : World} (h : Rep L st w) (v : Bool) : Rep L { st with opn := v } (w.setCell ⟨L.g, 153, none⟩ (.bool v)) :=
  h.put 153 (by omega) _ (fun i hi => by
    by_cases e : i = 153
    · subst e; rfl
    · rw [if_neg e]; unfold encF; split <;> first | rfl | exact absurd rfl e) rfl rfl

theorem Rep.c_place {L : Lay} {st : St} {w : World} (h : Rep L st w) : w.cell? ⟨L.g, 154, none⟩ = some (.int .i64 st.place) := (h.brd 154 (by omega)).1
theorem Rep.f_place {L : Lay} {st : St} {w : World} (h : Rep L st w) : w.frozen? ⟨L.g, 154, none⟩ = false := (h.brd 154 (by omega)).2
theorem Rep.set_place {L : Lay} {st : St} {w : World} (h : Rep L st w) (v : Int) : Rep L { st with place := v } (w.setCell ⟨L.g, 154, none⟩ (.int .i64 v)) :=
  h.put 154 (by omega) _ (fun i hi => by
    by_cases e : i = 154
    · subst e; rfl
    · rw [if_neg e]; unfold encF; split <;> first | rfl | exact absurd rfl e) rfl rfl

theorem Rep.c_rst {L : Lay} {st : St} {w : World} (h : Rep L st w) : w.cell? ⟨L.g, 155, none⟩ = some (.int .i64 st.rst) := (h.brd 155 (by omega)).1
theorem Rep.f_rst {L : Lay} {st : St} {w : World} (h : Rep L st w) : w.frozen? ⟨L.g, 155, none⟩ = false := (h.brd 155 (by omega)).2
theorem Rep.set_rst {L : Lay} {st : St} {w : World} (h : Rep L st w) (v : Int) : Rep L { st with rst := v } (w.setCell ⟨L.g, 155, none⟩ (.int .i64 v)) :=
  h.put 155 (by omega) _ (fun i hi => by
    by_cases e : i = 155
    · subst e; rfl
    · rw [if_neg e]; unfold encF; split <;> first | rfl | exact absurd rfl e) rfl rfl

end Go.Proofs.YtommhbidkoeifaaGreat
