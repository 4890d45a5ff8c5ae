/- Of several texts, one behind the other. -/
import Derived.Test.YtikdbpphbdbdnaaGreatBb
import Derived.Test.YtikdbpphbdbdnaaGreatBd
import Derived.RegionTactic
import Derived.BigRegion
/- The document's board in memory: its 156 cells and two rows of bytes, by the plain state. -/
namespace Go.Proofs.YtikdbpphbdbdnaaGreat
open Go.RowKit

/-- Where a board lies: its own block, its banks' blocks and their capacities. -/
structure Lay where
  g : Nat
  p : Nat
  q : Nat
  cp : Nat
  cq : Nat

/-- The cells of a board. -/
def encF (L : Lay) (st : St) : Nat → Value
  | 128 => .slice (some ⟨L.p, 0, none⟩) 64 L.cp
  | 129 => .slice (some ⟨L.q, 0, none⟩) 64 L.cq
  | 130 => .int .i64 st.bank
  | 131 => .int .i64 st.s0
  | 132 => .int .i64 st.s1
  | 133 => .int .i64 st.cause
  | 134 => .int .i64 st.left
  | 135 => .bool st.down
  | 136 => .int .i64 st.a
  | 137 => .int .i64 st.x
  | 138 => .int .i64 st.pc
  | 139 => .bool st.zero
  | 140 => .bool st.carry
  | 141 => .int .i64 st.op
  | 142 => .int .i64 st.opd
  | 143 => .int .i64 st.phase
  | 144 => .int .i64 st.period
  | 145 => .int .i64 st.count
  | 146 => .bool st.flag
  | 147 => .int .i64 st.age
  | 148 => .int .i64 st.window
  | 149 => .bool st.windowed
  | 150 => .bool st.key
  | 151 => .int .u8 st.out
  | 152 => .int .u8 st.inp
  | 153 => .bool st.opn
  | 154 => .int .i64 st.place
  | 155 => .int .i64 st.rst
  | i => .int .u8 (st.mem i)

/-- The document's board lies there, in this state. -/
structure Rep (L : Lay) (st : St) (w : World) : Prop where
  brd : Raw L.g 156 (encF L st) w
  r0 : Raw L.p 64 (fun i => .int .u8 (st.b0 i)) w
  r1 : Raw L.q 64 (fun i => .int .u8 (st.b1 i)) w
  gp : L.g ≠ L.p
  gq : L.g ≠ L.q
  pq : L.p ≠ L.q

/-- The blocks of a board. -/
def Lay.own (L : Lay) (k : Nat) : Prop := k = L.g ∨ k = L.p ∨ k = L.q

theorem Rep.kept {S : Nat → Prop} {L : Lay} {st : St} {w w' : World} (h : Rep L st w) (hk : Kept S w w') (hS : ∀ k, L.own k → ¬ S k) : Rep L st w' :=
  ⟨h.brd.kept hk (h.brd.lt (by omega)) (hS _ (Or.inl rfl)), h.r0.kept hk (h.r0.lt (by omega)) (hS _ (Or.inr (Or.inl rfl))), h.r1.kept hk (h.r1.lt (by omega)) (hS _ (Or.inr (Or.inr rfl))), h.gp, h.gq, h.pq⟩

theorem Rep.alloc {L : Lay} {st : St} {w : World} (h : Rep L st w) (o : Obj) : Rep L st (w.alloc o) := h.kept (S := fun _ => False) ((Kept.refl _ _).alloc o) (fun _ _ x => x)
theorem Rep.drewN {L : Lay} {st : St} {w : World} (h : Rep L st w) (n : Nat) : Rep L st (w.drewN n) := h.kept (S := fun _ => False) ((Kept.refl _ _).drewN n) (fun _ _ x => x)
theorem Rep.drew {L : Lay} {st : St} {w : World} (h : Rep L st w) : Rep L st w.drew := h.kept (S := fun _ => False) ((Kept.refl _ _).drew) (fun _ _ x => x)
theorem Rep.below {L : Lay} {st : St} {w w' : World} (h : Rep L st w) (hb : Below w.heap.size w w') : Rep L st w' := h.kept (S := fun _ => False) (Kept.below hb) (fun _ _ x => x)

theorem Rep.other {L : Lay} {st : St} {w : World} (h : Rep L st w) {b j : Nat} (hb : ¬ L.own b) (v : Value) : Rep L st (w.setCell ⟨b, j, none⟩ v) :=
  ⟨h.brd.other (fun e => hb (Or.inl e)) v, h.r0.other (fun e => hb (Or.inr (Or.inl e))) v, h.r1.other (fun e => hb (Or.inr (Or.inr e))) v, h.gp, h.gq, h.pq⟩

theorem Rep.lt {L : Lay} {st : St} {w : World} (h : Rep L st w) : L.g < w.heap.size ∧ L.p < w.heap.size ∧ L.q < w.heap.size := ⟨h.brd.lt (by omega), h.r0.lt (by omega), h.r1.lt (by omega)⟩

theorem Rep.put {L : Lay} {st st' : St} {w : World} (h : Rep L st w) (k : Nat) (hk : k < 156) (v : Value) (he : ∀ i, i < 156 → encF L st' i = if i = k then v else encF L st i) (h0 : st'.b0 = st.b0) (h1 : st'.b1 = st.b1) : Rep L st' (w.setCell ⟨L.g, k, none⟩ v) :=
  ⟨h.brd.set hk v he, by rw [h0]; exact h.r0.other h.gp v, by rw [h1]; exact h.r1.other h.gq v, h.gp, h.gq, h.pq⟩

theorem Rep.set_mem {L : Lay} {st : St} {w : World} (h : Rep L st w) (k : Nat) (hk : k < 128) (v : Int) : Rep L { st with mem := upd st.mem k v } (w.setCell ⟨L.g, k, none⟩ (.int .u8 v)) :=
  h.put k (by omega) _ (fun i hi => by
    by_cases e : i = k
    · subst e
      rw [if_pos rfl]
      unfold encF
      split <;> first | omega | simp [upd]
    · rw [if_neg e]
      unfold encF
      split <;> simp [upd, e]) rfl rfl

theorem Rep.set_b0 {L : Lay} {st : St} {w : World} (h : Rep L st w) (k : Nat) (hk : k < 64) (v : Int) : Rep L { st with b0 := upd st.b0 k v } (w.setCell ⟨L.p, k, none⟩ (.int .u8 v)) :=
  ⟨h.brd.other (Ne.symm h.gp) _, h.r0.set hk _ (fun i _ => by by_cases e : i = k <;> simp [upd, e]), h.r1.other h.pq _, h.gp, h.gq, h.pq⟩

theorem Rep.set_b1 {L : Lay} {st : St} {w : World} (h : Rep L st w) (k : Nat) (hk : k < 64) (v : Int) : Rep L { st with b1 := upd st.b1 k v } (w.setCell ⟨L.q, k, none⟩ (.int .u8 v)) :=
  ⟨h.brd.other (Ne.symm h.gq) _, h.r0.other (Ne.symm h.pq) _, h.r1.set hk _ (fun i _ => by by_cases e : i = k <;> simp [upd, e]), h.gp, h.gq, h.pq⟩

theorem Rep.c_mem {L : Lay} {st : St} {w : World} (h : Rep L st w) (k : Nat) (hk : k < 128) : w.cell? ⟨L.g, k, none⟩ = some (.int .u8 (st.mem k)) := by
  have h1 := (h.brd k (by omega)).1
  rw [h1]
  unfold encF
  split <;> first | omega | rfl

theorem Rep.c_p {L : Lay} {st : St} {w : World} (h : Rep L st w) : w.cell? ⟨L.g, 128, none⟩ = some (.slice (some ⟨L.p, 0, none⟩) 64 L.cp) := (h.brd 128 (by omega)).1
theorem Rep.c_q {L : Lay} {st : St} {w : World} (h : Rep L st w) : w.cell? ⟨L.g, 129, none⟩ = some (.slice (some ⟨L.q, 0, none⟩) 64 L.cq) := (h.brd 129 (by omega)).1
theorem Rep.fz {L : Lay} {st : St} {w : World} (h : Rep L st w) (k : Nat) (hk : k < 156) : w.frozen? ⟨L.g, k, none⟩ = false := (h.brd k hk).2

theorem Rep.c_bank {L : Lay} {st : St} {w : World} (h : Rep L st w) : w.cell? ⟨L.g, 130, none⟩ = some (.int .i64 st.bank) := (h.brd 130 (by omega)).1
theorem Rep.f_bank {L : Lay} {st : St} {w : World} (h : Rep L st w) : w.frozen? ⟨L.g, 130, none⟩ = false := (h.brd 130 (by omega)).2
theorem Rep.set_bank {L : Lay} {st : St} {w : World} (h : Rep L st w) (v : Int) : Rep L { st with bank := v } (w.setCell ⟨L.g, 130, none⟩ (.int .i64 v)) :=
  h.put 130 (by omega) _ (fun i hi => by
    by_cases e : i = 130
    · subst e; rfl
    · rw [if_neg e]; unfold encF; split <;> first | rfl | exact absurd rfl e) rfl rfl

theorem Rep.c_s0 {L : Lay} {st : St} {w : World} (h : Rep L st w) : w.cell? ⟨L.g, 131, none⟩ = some (.int .i64 st.s0) := (h.brd 131 (by omega)).1
theorem Rep.f_s0 {L : Lay} {st : St} {w : World} (h : Rep L st w) : w.frozen? ⟨L.g, 131, none⟩ = false := (h.brd 131 (by omega)).2
theorem Rep.set_s0 {L : Lay} {st : St} {w : World} (h : Rep L st w) (v : Int) : Rep L { st with s0 := v } (w.setCell ⟨L.g, 131, none⟩ (.int .i64 v)) :=
  h.put 131 (by omega) _ (fun i hi => by
    by_cases e : i = 131
    · subst e; rfl
    · rw [if_neg e]; unfold encF; split <;> first | rfl | exact absurd rfl e) rfl rfl

theorem Rep.c_s1 {L : Lay} {st : St} {w : World} (h : Rep L st w) : w.cell? ⟨L.g, 132, none⟩ = some (.int .i64 st.s1) := (h.brd 132 (by omega)).1
theorem Rep.f_s1 {L : Lay} {st : St} {w : World} (h : Rep L st w) : w.frozen? ⟨L.g, 132, none⟩ = false := (h.brd 132 (by omega)).2
theorem Rep.set_s1 {L : Lay} {st : St} {w : World} (h : Rep L st w) (v : Int) : Rep L { st with s1 := v } (w.setCell ⟨L.g, 132, none⟩ (.int .i64 v)) :=
  h.put 132 (by omega) _ (fun i hi => by
    by_cases e : i = 132
    · subst e; rfl
    · rw [if_neg e]; unfold encF; split <;> first | rfl | exact absurd rfl e) rfl rfl

theorem Rep.c_cause {L : Lay} {st : St} {w : World} (h : Rep L st w) : w.cell? ⟨L.g, 133, none⟩ = some (.int .i64 st.cause) := (h.brd 133 (by omega)).1
theorem Rep.f_cause {L : Lay} {st : St} {w : World} (h : Rep L st w) : w.frozen? ⟨L.g, 133, none⟩ = false := (h.brd 133 (by omega)).2
theorem Rep.set_cause {L : Lay} {st : St} {w : World} (h : Rep L st w) (v : Int) : Rep L { st with cause := v } (w.setCell ⟨L.g, 133, none⟩ (.int .i64 v)) :=
  h.put 133 (by omega) _ (fun i hi => by
    by_cases e : i = 133
    · subst e; rfl
    · rw [if_neg e]; unfold encF; split <;> first | rfl | exact absurd rfl e) rfl rfl

theorem Rep.c_left {L : Lay} {st : St} {w : World} (h : Rep L st w) : w.cell? ⟨L.g, 134, none⟩ = some (.int .i64 st.left) := (h.brd 134 (by omega)).1
theorem Rep.f_left {L : Lay} {st : St} {w : World} (h : Rep L st w) : w.frozen? ⟨L.g, 134, none⟩ = false := (h.brd 134 (by omega)).2
theorem Rep.set_left {L : Lay} {st : St} {w : World} (h : Rep L st w) (v : Int) : Rep L { st with left := v } (w.setCell ⟨L.g, 134, none⟩ (.int .i64 v)) :=
  h.put 134 (by omega) _ (fun i hi => by
    by_cases e : i = 134
    · subst e; rfl
    · rw [if_neg e]; unfold encF; split <;> first | rfl | exact absurd rfl e) rfl rfl

theorem Rep.c_down {L : Lay} {st : St} {w : World} (h : Rep L st w) : w.cell? ⟨L.g, 135, none⟩ = some (.bool st.down) := (h.brd 135 (by omega)).1
theorem Rep.f_down {L : Lay} {st : St} {w : World} (h : Rep L st w) : w.frozen? ⟨L.g, 135, none⟩ = false := (h.brd 135 (by omega)).2
theorem Rep.set_down {L : Lay} {st : St} {w : World} (h : Rep L st w) (v : Bool) : Rep L { st with down := v } (w.setCell ⟨L.g, 135, none⟩ (.bool v)) :=
  h.put 135 (by omega) _ (fun i hi => by
    by_cases e : i = 135
    · subst e; rfl
    · rw [if_neg e]; unfold encF; split <;> first | rfl | exact absurd rfl e) rfl rfl

theorem Rep.c_a {L : Lay} {st : St} {w : World} (h : Rep L st w) : w.cell? ⟨L.g, 136, none⟩ = some (.int .i64 st.a) := (h.brd 136 (by omega)).1
theorem Rep.f_a {L : Lay} {st : St} {w : World} (h : Rep L st w) : w.frozen? ⟨L.g, 136, none⟩ = false := (h.brd 136 (by omega)).2
theorem Rep.set_a {L : Lay} {st : St} {w : World} (h : Rep L st w) (v : Int) : Rep L { st with a := v } (w.setCell ⟨L.g, 136, none⟩ (.int .i64 v)) :=
  h.put 136 (by omega) _ (fun i hi => by
    by_cases e : i = 136
    · subst e; rfl
    · rw [if_neg e]; unfold encF; split <;> first | rfl | exact absurd rfl e) rfl rfl

theorem Rep.c_x {L : Lay} {st : St} {w : World} (h : Rep L st w) : w.cell? ⟨L.g, 137, none⟩ = some (.int .i64 st.x) := (h.brd 137 (by omega)).1
theorem Rep.f_x {L : Lay} {st : St} {w : World} (h : Rep L st w) : w.frozen? ⟨L.g, 137, none⟩ = false := (h.brd 137 (by omega)).2
theorem Rep.set_x {L : Lay} {st : St} {w : World} (h : Rep L st w) (v : Int) : Rep L { st with x := v } (w.setCell ⟨L.g, 137, none⟩ (.int .i64 v)) :=
  h.put 137 (by omega) _ (fun i hi => by
    by_cases e : i = 137
    · subst e; rfl
    · rw [if_neg e]; unfold encF; split <;> first | rfl | exact absurd rfl e) rfl rfl

theorem Rep.c_pc {L : Lay} {st : St} {w : World} (h : Rep L st w) : w.cell? ⟨L.g, 138, none⟩ = some (.int .i64 st.pc) := (h.brd 138 (by omega)).1
theorem Rep.f_pc {L : Lay} {st : St} {w : World} (h : Rep L st w) : w.frozen? ⟨L.g, 138, none⟩ = false := (h.brd 138 (by omega)).2
theorem Rep.set_pc {L : Lay} {st : St} {w : World} (h : Rep L st w) (v : Int) : Rep L { st with pc := v } (w.setCell ⟨L.g, 138, none⟩ (.int .i64 v)) :=
  h.put 138 (by omega) _ (fun i hi => by
    by_cases e : i = 138
    · subst e; rfl
    · rw [if_neg e]; unfold encF; split <;> first | rfl | exact absurd rfl e) rfl rfl

theorem Rep.c_zero {L : Lay} {st : St} {w : World} (h : Rep L st w) : w.cell? ⟨L.g, 139, none⟩ = some (.bool st.zero) := (h.brd 139 (by omega)).1
theorem Rep.f_zero {L : Lay} {st : St} {w : World} (h : Rep L st w) : w.frozen? ⟨L.g, 139, none⟩ = false := (h.brd 139 (by omega)).2
theorem Rep.set_zero {L : Lay} {st : St} {w : World} (h : Rep L st w) (v : Bool) : Rep L { st with zero := v } (w.setCell ⟨L.g, 139, none⟩ (.bool v)) :=
  h.put 139 (by omega) _ (fun i hi => by
    by_cases e : i = 139
    · subst e; rfl
    · rw [if_neg e]; unfold encF; split <;> first | rfl | exact absurd rfl e) rfl rfl

theorem Rep.c_carry {L : Lay} {st : St} {w : World} (h : Rep L st w) : w.cell? ⟨L.g, 140, none⟩ = some (.bool st.carry) := (h.brd 140 (by omega)).1
theorem Rep.f_carry {L : Lay} {st : St} {w : World} (h : Rep L st w) : w.frozen? ⟨L.g, 140, none⟩ = false := (h.brd 140 (by omega)).2
theorem Rep.set_carry {L : Lay} {st : St} {w : World} (h : Rep L st w) (v : Bool) : Rep L { st with carry := v } (w.setCell ⟨L.g, 140, none⟩ (.bool v)) :=
  h.put 140 (by omega) _ (fun i hi => by
    by_cases e : i = 140
    · subst e; rfl
    · rw [if_neg e]; unfold encF; split <;> first | rfl | exact absurd rfl e) rfl rfl

theorem Rep.c_op {L : Lay} {st : St} {w : World} (h : Rep L st w) : w.cell? ⟨L.g, 141, none⟩ = some (.int .i64 st.op) := (h.brd 141 (by omega)).1
theorem Rep.f_op {L : Lay} {st : St} {w : World} (h : Rep L st w) : w.frozen? ⟨L.g, 141, none⟩ = false := (h.brd 141 (by omega)).2
theorem Rep.set_op {L : Lay} {st : St} {w : World} (h : Rep L st w) (v : Int) : Rep L { st with op := v } (w.setCell ⟨L.g, 141, none⟩ (.int .i64 v)) :=
  h.put 141 (by omega) _ (fun i hi => by
    by_cases e : i = 141
    · subst e; rfl
    · rw [if_neg e]; unfold encF; split <;> first | rfl | exact absurd rfl e) rfl rfl

theorem Rep.c_opd {L : Lay} {st : St} {w : World} (h : Rep L st w) : w.cell? ⟨L.g, 142, none⟩ = some (.int .i64 st.opd) := (h.brd 142 (by omega)).1
theorem Rep.f_opd {L : Lay} {st : St} {w : World} (h : Rep L st w) : w.frozen? ⟨L.g, 142, none⟩ = false := (h.brd 142 (by omega)).2
theorem Rep.set_opd {L : Lay} {st : St} {w : World} (h : Rep L st w) (v : Int) : Rep L { st with opd := v } (w.setCell ⟨L.g, 142, none⟩ (.int .i64 v)) :=
  h.put 142 (by omega) _ (fun i hi => by
    by_cases e : i = 142
    · subst e; rfl
    · rw [if_neg e]; unfold encF; split <;> first | rfl | exact absurd rfl e) rfl rfl

theorem Rep.c_phase {L : Lay} {st : St} {w : World} (h : Rep L st w) : w.cell? ⟨L.g, 143, none⟩ = some (.int .i64 st.phase) := (h.brd 143 (by omega)).1
theorem Rep.f_phase {L : Lay} {st : St} {w : World} (h : Rep L st w) : w.frozen? ⟨L.g, 143, none⟩ = false := (h.brd 143 (by omega)).2
theorem Rep.set_phase {L : Lay} {st : St} {w : World} (h : Rep L st w) (v : Int) : Rep L { st with phase := v } (w.setCell ⟨L.g, 143, none⟩ (.int .i64 v)) :=
  h.put 143 (by omega) _ (fun i hi => by
    by_cases e : i = 143
    · subst e; rfl
    · rw [if_neg e]; unfold encF; split <;> first | rfl | exact absurd rfl e) rfl rfl

theorem Rep.c_period {L : Lay} {st : St} {w : World} (h : Rep L st w) : w.cell? ⟨L.g, 144, none⟩ = some (.int .i64 st.period) := (h.brd 144 (by omega)).1
theorem Rep.f_period {L : Lay} {st : St} {w : World} (h : Rep L st w) : w.frozen? ⟨L.g, 144, none⟩ = false := (h.brd 144 (by omega)).2
theorem Rep.set_period {L : Lay} {st : St} {w : World} (h : Rep L st w) (v : Int) : Rep L { st with period := v } (w.setCell ⟨L.g, 144, none⟩ (.int .i64 v)) :=
  h.put 144 (by omega) _ (fun i hi => by
    by_cases e : i = 144
    · subst e; rfl
    · rw [if_neg e]; unfold encF; split <;> first | rfl | exact absurd rfl e) rfl rfl

theorem Rep.c_count {L : Lay} {st : St} {w : World} (h : Rep L st w) : w.cell? ⟨L.g, 145, none⟩ = some (.int .i64 st.count) := (h.brd 145 (by omega)).1
theorem Rep.f_count {L : Lay} {st : St} {w : World} (h : Rep L st w) : w.frozen? ⟨L.g, 145, none⟩ = false := (h.brd 145 (by omega)).2
theorem Rep.set_count {L : Lay} {st : St} {w : World} (h : Rep L st w) (v : Int) : Rep L { st with count := v } (w.setCell ⟨L.g, 145, none⟩ (.int .i64 v)) :=
  h.put 145 (by omega) _ (fun i hi => by
    by_cases e : i = 145
    · subst e; rfl
    · rw [if_neg e]; unfold encF; split <;> first | rfl | exact absurd rfl e) rfl rfl

theorem Rep.c_flag {L : Lay} {st : St} {w : World} (h : Rep L st w) : w.cell? ⟨L.g, 146, none⟩ = some (.bool st.flag) := (h.brd 146 (by omega)).1
theorem Rep.f_flag {L : Lay} {st : St} {w : World} (h : Rep L st w) : w.frozen? ⟨L.g, 146, none⟩ = false := (h.brd 146 (by omega)).2
theorem Rep.set_flag {L : Lay} {st : St} {w : World} (h : Rep L st w) (v : Bool) : Rep L { st with flag := v } (w.setCell ⟨L.g, 146, none⟩ (.bool v)) :=
  h.put 146 (by omega) _ (fun i hi => by
    by_cases e : i = 146
    · subst e; rfl
    · rw [if_neg e]; unfold encF; split <;> first | rfl | exact absurd rfl e) rfl rfl

theorem Rep.c_age {L : Lay} {st : St} {w : World} (h : Rep L st w) : w.cell? ⟨L.g, 147, none⟩ = some (.int .i64 st.age) := (h.brd 147 (by omega)).1
theorem Rep.f_age {L : Lay} {st : St} {w : World} (h : Rep L st w) : w.frozen? ⟨L.g, 147, none⟩ = false := (h.brd 147 (by omega)).2
theorem Rep.set_age {L : Lay} {st : St} {w : World} (h : Rep L st w) (v : Int) : Rep L { st with age := v } (w.setCell ⟨L.g, 147, none⟩ (.int .i64 v)) :=
  h.put 147 (by omega) _ (fun i hi => by
    by_cases e : i = 147
    · subst e; rfl
    · rw [if_neg e]; unfold encF; split <;> first | rfl | exact absurd rfl e) rfl rfl

theorem Rep.c_window {L : Lay} {st : St} {w : World} (h : Rep L st w) : w.cell? ⟨L.g, 148, none⟩ = some (.int .i64 st.window) := (h.brd 148 (by omega)).1
theorem Rep.f_window {L : Lay} {st : St} {w : World} (h : Rep L st w) : w.frozen? ⟨L.g, 148, none⟩ = false := (h.brd 148 (by omega)).2
theorem Rep.set_window {L : Lay} {st : St} {w : World} (h : Rep L st w) (v : Int) : Rep L { st with window := v } (w.setCell ⟨L.g, 148, none⟩ (.int .i64 v)) :=
  h.put 148 (by omega) _ (fun i hi => by
    by_cases e : i = 148
    · subst e; rfl
    · rw [if_neg e]; unfold encF; split <;> first | rfl | exact absurd rfl e) rfl rfl

theorem Rep.c_windowed {L : Lay} {st : St} {w : World} (h : Rep L st w) : w.cell? ⟨L.g, 149, none⟩ = some (.bool st.windowed) := (h.brd 149 (by omega)).1
theorem Rep.f_windowed {L : Lay} {st : St} {w : World} (h : Rep L st w) : w.frozen? ⟨L.g, 149, none⟩ = false := (h.brd 149 (by omega)).2
theorem Rep.set_windowed {L : Lay} {st : St} {w : World} (h : Rep L st w) (v : Bool) : Rep L { st with windowed := v } (w.setCell ⟨L.g, 149, none⟩ (.bool v)) :=
  h.put 149 (by omega) _ (fun i hi => by
    by_cases e : i = 149
    · subst e; rfl
    · rw [if_neg e]; unfold encF; split <;> first | rfl | exact absurd rfl e) rfl rfl

theorem Rep.c_key {L : Lay} {st : St} {w : World} (h : Rep L st w) : w.cell? ⟨L.g, 150, none⟩ = some (.bool st.key) := (h.brd 150 (by omega)).1
theorem Rep.f_key {L : Lay} {st : St} {w : World} (h : Rep L st w) : w.frozen? ⟨L.g, 150, none⟩ = false := (h.brd 150 (by omega)).2
theorem Rep.set_key {L : Lay} {st : St} {w : World} (h : Rep L st w) (v : Bool) : Rep L { st with key := v } (w.setCell ⟨L.g, 150, none⟩ (.bool v)) :=
  h.put 150 (by omega) _ (fun i hi => by
    by_cases e : i = 150
    · subst e; rfl
    · rw [if_neg e]; unfold encF; split <;> first | rfl | exact absurd rfl e) rfl rfl

theorem Rep.c_out {L : Lay} {st : St} {w : World} (h : Rep L st w) : w.cell? ⟨L.g, 151, none⟩ = some (.int .u8 st.out) := (h.brd 151 (by omega)).1
theorem Rep.f_out {L : Lay} {st : St} {w : World} (h : Rep L st w) : w.frozen? ⟨L.g, 151, none⟩ = false := (h.brd 151 (by omega)).2
theorem Rep.set_out {L : Lay} {st : St} {w : World} (h : Rep L st w) (v : Int) : Rep L { st with out := v } (w.setCell ⟨L.g, 151, none⟩ (.int .u8 v)) :=
  h.put 151 (by omega) _ (fun i hi => by
    by_cases e : i = 151
    · subst e; rfl
    · rw [if_neg e]; unfold encF; split <;> first | rfl | exact absurd rfl e) rfl rfl

theorem Rep.c_inp {L : Lay} {st : St} {w : World} (h : Rep L st w) : w.cell? ⟨L.g, 152, none⟩ = some (.int .u8 st.inp) := (h.brd 152 (by omega)).1
theorem Rep.f_inp {L : Lay} {st : St} {w : World} (h : Rep L st w) : w.frozen? ⟨L.g, 152, none⟩ = false := (h.brd 152 (by omega)).2
theorem Rep.set_inp {L : Lay} {st : St} {w : World} (h : Rep L st w) (v : Int) : Rep L { st with inp := v } (w.setCell ⟨L.g, 152, none⟩ (.int .u8 v)) :=
  h.put 152 (by omega) _ (fun i hi => by
    by_cases e : i = 152
    · subst e; rfl
    · rw [if_neg e]; unfold encF; split <;> first | rfl | exact absurd rfl e) rfl rfl

theorem Rep.c_opn {L : Lay} {st : St} {w : World} (h : Rep L st w) : w.cell? ⟨L.g, 153, none⟩ = some (.bool st.opn) := (h.brd 153 (by omega)).1
theorem Rep.f_opn {L : Lay} {st : St} {w : World} (h : Rep L st w) : w.frozen? ⟨L.g, 153, none⟩ = false := (h.brd 153 (by omega)).2
theorem Rep.set_opn {L : Lay} {st : St} {w : World} (h : Rep L st w) (v : Bool) : Rep L { st with opn := v } (w.setCell ⟨L.g, 153, none⟩ (.bool v)) :=
  h.put 153 (by omega) _ (fun i hi => by
    by_cases e : i = 153
    · subst e; rfl
    · rw [if_neg e]; unfold encF; split <;> first | rfl | exact absurd rfl e) rfl rfl

theorem Rep.c_place {L : Lay} {st : St} {w : World} (h : Rep L st w) : w.cell? ⟨L.g, 154, none⟩ = some (.int .i64 st.place) := (h.brd 154 (by omega)).1
theorem Rep.f_place {L : Lay} {st : St} {w : World} (h : Rep L st w) : w.frozen? ⟨L.g, 154, none⟩ = false := (h.brd 154 (by omega)).2
theorem Rep.set_place {L : Lay} {st : St} {w : World} (h : Rep L st w) (v : Int) : Rep L { st with place := v } (w.setCell ⟨L.g, 154, none⟩ (.int .i64 v)) :=
  h.put 154 (by omega) _ (fun i hi => by
    by_cases e : i = 154
    · subst e; rfl
    · rw [if_neg e]; unfold encF; split <;> first | rfl | exact absurd rfl e) rfl rfl

theorem Rep.c_rst {L : Lay} {st : St} {w : World} (h : Rep L st w) : w.cell? ⟨L.g, 155, none⟩ = some (.int .i64 st.rst) := (h.brd 155 (by omega)).1
theorem Rep.f_rst {L : Lay} {st : St} {w : World} (h : Rep L st w) : w.frozen? ⟨L.g, 155, none⟩ = false := (h.brd 155 (by omega)).2
theorem Rep.set_rst {L : Lay} {st : St} {w : World} (h : Rep L st w) (v : Int) : Rep L { st with rst := v } (w.setCell ⟨L.g, 155, none⟩ (.int .i64 v)) :=
  h.put 155 (by omega) _ (fun i hi => by
    by_cases e : i = 155
    · subst e; rfl
    · rw [if_neg e]; unfold encF; split <;> first | rfl | exact absurd rfl e) rfl rfl

end Go.Proofs.YtikdbpphbdbdnaaGreat

/- The document's board, its small functions: flag, length, set, setX, reset. -/
namespace Go.Proofs.YtikdbpphbdbdnaaGreat
open Go.RowKit

theorem Rep.as {L : Lay} {st st' : St} {w : World} (h : Rep L st w) (e : st = st') : Rep L st' w := e ▸ h

theorem own_rg (L : Lay) : L.own L.g := Or.inl rfl
theorem own_p (L : Lay) : L.own L.p := Or.inr (Or.inl rfl)
theorem own_q (L : Lay) : L.own L.q := Or.inr (Or.inr rfl)

theorem Kept.rg {L : Lay} {a w : World} (h : Kept L.own a w) (j : Nat) (u : Value) : Kept L.own a (w.setCell ⟨L.g, j, none⟩ u) := h.setCell (Or.inl (own_rg L)) u

set_option maxHeartbeats 400000 in
theorem rFlag_any (b : Bool) (w : World) : Calls Tryz.prog 95 #[.bool b] w fun e w' => e = .returned (.int .u8 (flagN b)) ∧ w' = w := by
  cases b
  · go_enter Tryz.func95, Tryz.ntmps95
    go_wp2
    go_ret
    exact ⟨rfl, rfl⟩
  · go_enter Tryz.func95, Tryz.ntmps95
    go_wp2
    go_ret
    exact ⟨rfl, rfl⟩

set_option maxHeartbeats 400000 in
theorem Rset_any {L : Lay} {st : St} {w : World} (hr : Rep L st w) (n : Int) (h0 : -512 ≤ n) (h1 : n ≤ 100000) :
    Calls Tryz.prog 81 #[.pointer (some ⟨L.g, 0, none⟩), .int .i64 n] w fun e w' => e = .returned (.tuple #[]) ∧ Rep L (st.setA n) w' ∧ Kept L.own w w' := by
  have c1 := hr.c_a
  have f1 := hr.f_a
  have c2 := hr.c_zero
  have f2 := hr.f_zero
  go_enter Tryz.func81, Tryz.ntmps81
  go_wp2
  go_end0
  have e1 : (n + 512) % 256 = n % 256 := by omega
  exact ⟨rfl, ((hr.set_a _).set_zero _).as (by rw [e1]; rfl), ((Kept.refl _ _).rg _ _).rg _ _⟩

set_option maxHeartbeats 400000 in
theorem RsetX_any {L : Lay} {st : St} {w : World} (hr : Rep L st w) (n : Int) (h0 : -256 ≤ n) (h1 : n ≤ 100000) :
    Calls Tryz.prog 83 #[.pointer (some ⟨L.g, 0, none⟩), .int .i64 n] w fun e w' => e = .returned (.tuple #[]) ∧ Rep L (st.setX n) w' ∧ Kept L.own w w' := by
  have c1 := hr.c_x
  have f1 := hr.f_x
  have c2 := hr.c_zero
  have f2 := hr.f_zero
  go_enter Tryz.func83, Tryz.ntmps83
  go_wp2
  go_end0
  exact ⟨rfl, ((hr.set_x _).set_zero _).as rfl, ((Kept.refl _ _).rg _ _).rg _ _⟩

set_option maxHeartbeats 400000 in
theorem Rreset_no {L : Lay} {st : St} {w : World} (hr : Rep L st w) (c : Int) (hc : strikesB c = false) :
    Calls Tryz.prog 49 #[.pointer (some ⟨L.g, 0, none⟩), .int .i64 c] w fun e w' => e = .returned (.tuple #[]) ∧ Rep L (st.reset c) w' ∧ Kept L.own w w' := by
  have HF : Hid (st.reset c = { st with cause := c, left := 4, rst := c }) := by simp [Hid, St.reset, hc]
  simp only [strikesB, Bool.or_eq_false_iff] at hc
  obtain ⟨⟨h2, h3⟩, h4⟩ := hc
  have c1 := hr.c_cause
  have f1 := hr.f_cause
  have c2 := hr.c_left
  have f2 := hr.f_left
  have c3 := hr.c_rst
  have f3 := hr.f_rst
  go_enter Tryz.func49, Tryz.ntmps49
  go_wp2
  go_end0
  exact ⟨rfl, (((hr.set_cause _).set_left _).set_rst _).as HF.out.symm, (((Kept.refl _ _).rg _ _).rg _ _).rg _ _⟩

set_option maxHeartbeats 400000 in
theorem Rreset_yes0 {L : Lay} {st : St} {w : World} (hr : Rep L st w) (c : Int) (hc : c = 2 ∨ c = 3 ∨ c = 4) (hb : st.bank = 0) :
    Calls Tryz.prog 49 #[.pointer (some ⟨L.g, 0, none⟩), .int .i64 c] w fun e w' => e = .returned (.tuple #[]) ∧ Rep L (st.reset c) w' ∧ Kept L.own w w' := by
  have HF : Hid (st.reset c = { st with cause := c, left := 4, rst := c, s0 := wrap64 (st.s0 + 1) }) := by
    have : strikesB c = true := by rcases hc with rfl | rfl | rfl <;> rfl
    simp [Hid, St.reset, this, St.setStrikes, St.strikes, hb]
  have cb := hr.c_bank
  rw [hb] at cb
  have c1 := hr.c_cause
  have f1 := hr.f_cause
  have c2 := hr.c_left
  have f2 := hr.f_left
  have c3 := hr.c_rst
  have f3 := hr.f_rst
  have c4 := hr.c_s0
  have f4 := hr.f_s0
  rcases hc with rfl | rfl | rfl
  all_goals
    go_enter Tryz.func49, Tryz.ntmps49
    go_wp2
    go_region
    go_end0
    exact ⟨rfl, (((((hr.set_cause _).set_left _).set_rst _).set_s0 _).drew).as HF.out.symm, (((((Kept.refl _ _).rg _ _).rg _ _).rg _ _).rg _ _).drew⟩

set_option maxHeartbeats 400000 in
theorem Rreset_yes1 {L : Lay} {st : St} {w : World} (hr : Rep L st w) (c : Int) (hc : c = 2 ∨ c = 3 ∨ c = 4) (hb : st.bank = 1) :
    Calls Tryz.prog 49 #[.pointer (some ⟨L.g, 0, none⟩), .int .i64 c] w fun e w' => e = .returned (.tuple #[]) ∧ Rep L (st.reset c) w' ∧ Kept L.own w w' := by
  have HF : Hid (st.reset c = { st with cause := c, left := 4, rst := c, s1 := wrap64 (st.s1 + 1) }) := by
    have : strikesB c = true := by rcases hc with rfl | rfl | rfl <;> rfl
    simp [Hid, St.reset, this, St.setStrikes, St.strikes, hb]
  have cb := hr.c_bank
  rw [hb] at cb
  have c1 := hr.c_cause
  have f1 := hr.f_cause
  have c2 := hr.c_left
  have f2 := hr.f_left
  have c3 := hr.c_rst
  have f3 := hr.f_rst
  have c4 := hr.c_s1
  have f4 := hr.f_s1
  rcases hc with rfl | rfl | rfl
  all_goals
    go_enter Tryz.func49, Tryz.ntmps49
    go_wp2
    go_region
    go_end0
    exact ⟨rfl, (((((hr.set_cause _).set_left _).set_rst _).set_s1 _).drew).as HF.out.symm, (((((Kept.refl _ _).rg _ _).rg _ _).rg _ _).rg _ _).drew⟩

/-- A reset with a strike wants a bank that was chosen. -/
theorem Rreset_any {L : Lay} {st : St} {w : World} (hr : Rep L st w) (c : Int) (h : strikesB c = false ∨ st.bank = 0 ∨ st.bank = 1) :
    Calls Tryz.prog 49 #[.pointer (some ⟨L.g, 0, none⟩), .int .i64 c] w fun e w' => e = .returned (.tuple #[]) ∧ Rep L (st.reset c) w' ∧ Kept L.own w w' := by
  cases hc : strikesB c
  · exact Rreset_no hr c hc
  · have hc' : c = 2 ∨ c = 3 ∨ c = 4 := by simp [strikesB] at hc; omega
    rcases h with h | h | h
    · rw [h] at hc; cases hc
    · exact Rreset_yes0 hr c hc' h
    · exact Rreset_yes1 hr c hc' h

end Go.Proofs.YtikdbpphbdbdnaaGreat

/- The document's board: what is read at an address. -/
namespace Go.Proofs.YtikdbpphbdbdnaaGreat
open Go.RowKit

set_option maxHeartbeats 400000 in
theorem Rread_mem {L : Lay} {st : St} {w : World} (hr : Rep L st w) (k : Nat) (hk : k < 128) :
    Calls Tryz.prog 80 #[.pointer (some ⟨L.g, 0, none⟩), .int .i64 (k : Int)] w fun e w' => e = .returned (.int .u8 (st.read k)) ∧ ∃ n, w' = w.drewN n := by
  have HF : Hid (st.read k = st.mem k) := by
    have h1 : (k : Int) < 128 := by omega
    simp [Hid, St.read, h1]
  have c1 := hr.c_mem k hk
  have hk' : (k : Int) < 128 := by omega
  go_enter Tryz.func80, Tryz.ntmps80
  go_wp2
  go_ret
  exact ⟨ret_int HF.out.symm, 0, rfl⟩

set_option maxRecDepth 100000 in
set_option maxHeartbeats 400000 in
theorem Rread_bank0 {L : Lay} {st : St} {w : World} (hr : Rep L st w) (k : Int) (j : Nat) (hkj : k = 128 + (j : Int)) (hj : j < 64) (hb : st.bank = 0) :
    Calls Tryz.prog 80 #[.pointer (some ⟨L.g, 0, none⟩), .int .i64 k] w fun e w' => e = .returned (.int .u8 (st.read k)) ∧ ∃ n, w' = w.drewN n := by
  have HF : Hid (st.read k = st.b0 j) := by
    have h1 : ¬ k < 128 := by omega
    have h2 : k < 192 := by omega
    have h3 : (k - 128).toNat = j := by omega
    simp [Hid, St.read, h1, h2, h3, St.inBank, hb]
  have c1 := hr.c_p
  have c2 := hr.c_bank
  rw [hb] at c2
  have c3 := (hr.r0 j hj).1
  have hk1 : 128 ≤ k := by omega
  have hk2 : k < 192 := by omega
  have hk3 : (k - 128).toNat = j := by omega
  have hk4 : k - 128 < 64 := by omega
  have hk5 : 0 ≤ k - 128 := by omega
  clear hkj hb
  go_enter Tryz.func80, Tryz.ntmps80
  go_wp2
  go_quiet (fail)
  go_wp2
  go_ret
  exact ⟨ret_int HF.out.symm, _, rfl⟩

set_option maxRecDepth 100000 in
set_option maxHeartbeats 400000 in
theorem Rread_bank1 {L : Lay} {st : St} {w : World} (hr : Rep L st w) (k : Int) (j : Nat) (hkj : k = 128 + (j : Int)) (hj : j < 64) (hb : st.bank = 1) :
    Calls Tryz.prog 80 #[.pointer (some ⟨L.g, 0, none⟩), .int .i64 k] w fun e w' => e = .returned (.int .u8 (st.read k)) ∧ ∃ n, w' = w.drewN n := by
  have HF : Hid (st.read k = st.b1 j) := by
    have h1 : ¬ k < 128 := by omega
    have h2 : k < 192 := by omega
    have h3 : (k - 128).toNat = j := by omega
    simp [Hid, St.read, h1, h2, h3, St.inBank, hb]
  have c1 := hr.c_q
  have c2 := hr.c_bank
  rw [hb] at c2
  have c3 := (hr.r1 j hj).1
  have hk1 : 128 ≤ k := by omega
  have hk2 : k < 192 := by omega
  have hk3 : (k - 128).toNat = j := by omega
  have hk4 : k - 128 < 64 := by omega
  have hk5 : 0 ≤ k - 128 := by omega
  clear hkj hb
  go_enter Tryz.func80, Tryz.ntmps80
  go_wp2
  go_quiet (fail)
  go_wp2
  go_ret
  exact ⟨ret_int HF.out.symm, _, rfl⟩

set_option maxRecDepth 100000 in
set_option maxHeartbeats 400000 in
theorem Rread_other0 {L : Lay} {st : St} {w : World} (hr : Rep L st w) (hi : Inv st) (hb : st.bank = 0) :
    Calls Tryz.prog 80 #[.pointer (some ⟨L.g, 0, none⟩), .int .i64 201] w fun e w' => e = .returned (.int .u8 (st.read 201)) ∧ ∃ n, w' = w.drewN n := by
  have HF : Hid (st.read 201 = st.b1 st.place.toNat) := by simp [Hid, St.read, St.inBank, hb]
  have c1 := hr.c_q
  have c2 := hr.c_bank
  rw [hb] at c2
  have c4 := hr.c_place
  have c3 := (hr.r1 st.place.toNat (by have := hi.place; omega)).1
  have hk4 : st.place < 64 := by have := hi.place; omega
  have hk5 : 0 ≤ st.place := hi.place.1
  clear hb
  go_enter Tryz.func80, Tryz.ntmps80
  go_wp2
  go_quiet (fail)
  go_wp2
  go_ret
  exact ⟨ret_int HF.out.symm, _, rfl⟩

set_option maxRecDepth 100000 in
set_option maxHeartbeats 400000 in
theorem Rread_other1 {L : Lay} {st : St} {w : World} (hr : Rep L st w) (hi : Inv st) (hb : st.bank = 1) :
    Calls Tryz.prog 80 #[.pointer (some ⟨L.g, 0, none⟩), .int .i64 201] w fun e w' => e = .returned (.int .u8 (st.read 201)) ∧ ∃ n, w' = w.drewN n := by
  have HF : Hid (st.read 201 = st.b0 st.place.toNat) := by simp [Hid, St.read, St.inBank, hb]
  have c1 := hr.c_p
  have c2 := hr.c_bank
  rw [hb] at c2
  have c4 := hr.c_place
  have c3 := (hr.r0 st.place.toNat (by have := hi.place; omega)).1
  have hk4 : st.place < 64 := by have := hi.place; omega
  have hk5 : 0 ≤ st.place := hi.place.1
  clear hb
  go_enter Tryz.func80, Tryz.ntmps80
  go_wp2
  go_quiet (fail)
  go_wp2
  go_ret
  exact ⟨ret_int HF.out.symm, _, rfl⟩

set_option maxRecDepth 100000 in
set_option maxHeartbeats 400000 in
theorem Rread_192 {L : Lay} {st : St} {w : World} (hr : Rep L st w) (hi : Inv st) :
    Calls Tryz.prog 80 #[.pointer (some ⟨L.g, 0, none⟩), .int .i64 192] w fun e w' => e = .returned (.int .u8 (st.read 192)) ∧ ∃ n, w' = w.drewN n := by
  have HF : Hid (st.read 192 = st.period) := by simp [Hid, St.read]
  have c1 := hr.c_period
  obtain ⟨b1, b2⟩ := hi.period
  go_enter Tryz.func80, Tryz.ntmps80
  go_wp2
  go_ret
  exact ⟨ret_int HF.out.symm, 0, rfl⟩

set_option maxRecDepth 100000 in
set_option maxHeartbeats 400000 in
theorem Rread_193 {L : Lay} {st : St} {w : World} (hr : Rep L st w) (hi : Inv st) :
    Calls Tryz.prog 80 #[.pointer (some ⟨L.g, 0, none⟩), .int .i64 193] w fun e w' => e = .returned (.int .u8 (st.read 193)) ∧ ∃ n, w' = w.drewN n := by
  have HF : Hid (st.read 193 = st.count) := by simp [Hid, St.read]
  have c1 := hr.c_count
  obtain ⟨b1, b2⟩ := hi.count
  go_enter Tryz.func80, Tryz.ntmps80
  go_wp2
  go_ret
  exact ⟨ret_int HF.out.symm, 0, rfl⟩

set_option maxRecDepth 100000 in
set_option maxHeartbeats 400000 in
theorem Rread_194 {L : Lay} {st : St} {w : World} (hr : Rep L st w) :
    Calls Tryz.prog 80 #[.pointer (some ⟨L.g, 0, none⟩), .int .i64 194] w fun e w' => e = .returned (.int .u8 (st.read 194)) ∧ ∃ n, w' = w.drewN n := by
  have HF : Hid (st.read 194 = flagN st.flag) := by simp [Hid, St.read]
  have c1 := hr.c_flag
  go_enter Tryz.func80, Tryz.ntmps80
  go_wp2_with (go_at_call 95; refine (rFlag_any _ _).mono ?_; rintro e w' ⟨rfl, rfl⟩)
  go_ret
  exact ⟨ret_int HF.out.symm, 0, rfl⟩

set_option maxRecDepth 100000 in
set_option maxHeartbeats 400000 in
theorem Rread_195 {L : Lay} {st : St} {w : World} (hr : Rep L st w) (hi : Inv st) :
    Calls Tryz.prog 80 #[.pointer (some ⟨L.g, 0, none⟩), .int .i64 195] w fun e w' => e = .returned (.int .u8 (st.read 195)) ∧ ∃ n, w' = w.drewN n := by
  have HF : Hid (st.read 195 = st.age) := by simp [Hid, St.read]
  have c1 := hr.c_age
  obtain ⟨b1, b2⟩ := hi.age
  go_enter Tryz.func80, Tryz.ntmps80
  go_wp2
  go_ret
  exact ⟨ret_int HF.out.symm, 0, rfl⟩

set_option maxRecDepth 100000 in
set_option maxHeartbeats 400000 in
theorem Rread_196 {L : Lay} {st : St} {w : World} (hr : Rep L st w) (hi : Inv st) :
    Calls Tryz.prog 80 #[.pointer (some ⟨L.g, 0, none⟩), .int .i64 196] w fun e w' => e = .returned (.int .u8 (st.read 196)) ∧ ∃ n, w' = w.drewN n := by
  have HF : Hid (st.read 196 = st.window) := by simp [Hid, St.read]
  have c1 := hr.c_window
  obtain ⟨b1, b2⟩ := hi.window
  go_enter Tryz.func80, Tryz.ntmps80
  go_wp2
  go_ret
  exact ⟨ret_int HF.out.symm, 0, rfl⟩

set_option maxRecDepth 100000 in
set_option maxHeartbeats 400000 in
theorem Rread_197 {L : Lay} {st : St} {w : World} (hr : Rep L st w) :
    Calls Tryz.prog 80 #[.pointer (some ⟨L.g, 0, none⟩), .int .i64 197] w fun e w' => e = .returned (.int .u8 (st.read 197)) ∧ ∃ n, w' = w.drewN n := by
  have HF : Hid (st.read 197 = st.out) := by simp [Hid, St.read]
  have c1 := hr.c_out
  go_enter Tryz.func80, Tryz.ntmps80
  go_wp2
  go_ret
  exact ⟨ret_int HF.out.symm, 0, rfl⟩

set_option maxRecDepth 100000 in
set_option maxHeartbeats 400000 in
theorem Rread_198 {L : Lay} {st : St} {w : World} (hr : Rep L st w) :
    Calls Tryz.prog 80 #[.pointer (some ⟨L.g, 0, none⟩), .int .i64 198] w fun e w' => e = .returned (.int .u8 (st.read 198)) ∧ ∃ n, w' = w.drewN n := by
  have HF : Hid (st.read 198 = st.inp) := by simp [Hid, St.read]
  have c1 := hr.c_inp
  go_enter Tryz.func80, Tryz.ntmps80
  go_wp2
  go_ret
  exact ⟨ret_int HF.out.symm, 0, rfl⟩

set_option maxRecDepth 100000 in
set_option maxHeartbeats 400000 in
theorem Rread_199 {L : Lay} {st : St} {w : World} (hr : Rep L st w) :
    Calls Tryz.prog 80 #[.pointer (some ⟨L.g, 0, none⟩), .int .i64 199] w fun e w' => e = .returned (.int .u8 (st.read 199)) ∧ ∃ n, w' = w.drewN n := by
  have HF : Hid (st.read 199 = flagN st.opn) := by simp [Hid, St.read]
  have c1 := hr.c_opn
  go_enter Tryz.func80, Tryz.ntmps80
  go_wp2_with (go_at_call 95; refine (rFlag_any _ _).mono ?_; rintro e w' ⟨rfl, rfl⟩)
  go_ret
  exact ⟨ret_int HF.out.symm, 0, rfl⟩

set_option maxRecDepth 100000 in
set_option maxHeartbeats 400000 in
theorem Rread_200 {L : Lay} {st : St} {w : World} (hr : Rep L st w) (hi : Inv st) :
    Calls Tryz.prog 80 #[.pointer (some ⟨L.g, 0, none⟩), .int .i64 200] w fun e w' => e = .returned (.int .u8 (st.read 200)) ∧ ∃ n, w' = w.drewN n := by
  have HF : Hid (st.read 200 = st.place) := by simp [Hid, St.read]
  have c1 := hr.c_place
  obtain ⟨b1, b2⟩ := hi.place
  go_enter Tryz.func80, Tryz.ntmps80
  go_wp2
  go_ret
  exact ⟨ret_int HF.out.symm, 0, rfl⟩

set_option maxRecDepth 100000 in
set_option maxHeartbeats 400000 in
theorem Rread_202 {L : Lay} {st : St} {w : World} (hr : Rep L st w) (hi : Inv st) :
    Calls Tryz.prog 80 #[.pointer (some ⟨L.g, 0, none⟩), .int .i64 202] w fun e w' => e = .returned (.int .u8 (st.read 202)) ∧ ∃ n, w' = w.drewN n := by
  have HF : Hid (st.read 202 = st.cause) := by simp [Hid, St.read]
  have c1 := hr.c_cause
  obtain ⟨b1, b2⟩ := hi.cause
  go_enter Tryz.func80, Tryz.ntmps80
  go_wp2
  go_ret
  exact ⟨ret_int HF.out.symm, 0, rfl⟩

set_option maxRecDepth 100000 in
set_option maxHeartbeats 400000 in
theorem Rread_203 {L : Lay} {st : St} {w : World} (hr : Rep L st w) (hb0 : 0 ≤ st.bank) (hb1 : st.bank ≤ 1) :
    Calls Tryz.prog 80 #[.pointer (some ⟨L.g, 0, none⟩), .int .i64 203] w fun e w' => e = .returned (.int .u8 (st.read 203)) ∧ ∃ n, w' = w.drewN n := by
  have HF : Hid (st.read 203 = st.bank) := by simp [Hid, St.read]
  have c1 := hr.c_bank
  go_enter Tryz.func80, Tryz.ntmps80
  go_wp2
  go_ret
  exact ⟨ret_int HF.out.symm, 0, rfl⟩

set_option maxRecDepth 100000 in
set_option maxHeartbeats 400000 in
theorem Rread_none {L : Lay} {st : St} {w : World} (k : Int) (hk : 203 < k) :
    Calls Tryz.prog 80 #[.pointer (some ⟨L.g, 0, none⟩), .int .i64 k] w fun e w' => e = .returned (.int .u8 (st.read k)) ∧ ∃ n, w' = w.drewN n := by
  have HF : Hid (st.read k = 0) := by
    unfold St.read Hid
    repeat rw [if_neg (by omega)]
  go_enter Tryz.func80, Tryz.ntmps80
  go_wp2
  go_ret
  exact ⟨ret_int HF.out.symm, 0, rfl⟩

theorem Rread_any {L : Lay} {st : St} {w : World} (hr : Rep L st w) (hi : Inv st) (hb : 0 ≤ st.bank) (k : Int) (h0 : 0 ≤ k) :
    Calls Tryz.prog 80 #[.pointer (some ⟨L.g, 0, none⟩), .int .i64 k] w fun e w' => e = .returned (.int .u8 (st.read k)) ∧ ∃ n, w' = w.drewN n := by
  have hb2 : st.bank = 0 ∨ st.bank = 1 := by have := hi.bank; omega
  obtain ⟨n, rfl⟩ := Int.eq_ofNat_of_zero_le h0
  by_cases h1 : n < 128
  · exact Rread_mem hr n h1
  by_cases h2 : n < 192
  · rcases hb2 with hb2 | hb2
    · exact Rread_bank0 hr _ (n - 128) (by omega) (by omega) hb2
    · exact Rread_bank1 hr _ (n - 128) (by omega) (by omega) hb2
  by_cases h3 : 203 < n
  · exact Rread_none _ (by omega)
  have h4 : n = 192 ∨ n = 193 ∨ n = 194 ∨ n = 195 ∨ n = 196 ∨ n = 197 ∨ n = 198 ∨ n = 199 ∨ n = 200 ∨ n = 201 ∨ n = 202 ∨ n = 203 := by omega
  rcases h4 with rfl | rfl | rfl | rfl | rfl | rfl | rfl | rfl | rfl | rfl | rfl | rfl
  · exact Rread_192 hr hi
  · exact Rread_193 hr hi
  · exact Rread_194 hr
  · exact Rread_195 hr hi
  · exact Rread_196 hr hi
  · exact Rread_197 hr
  · exact Rread_198 hr
  · exact Rread_199 hr
  · exact Rread_200 hr hi
  · rcases hb2 with hb2 | hb2
    · exact Rread_other0 hr hi hb2
    · exact Rread_other1 hr hi hb2
  · exact Rread_202 hr hi
  · exact Rread_203 hr hb hi.bank.2

end Go.Proofs.YtikdbpphbdbdnaaGreat

/- The document's board: the watch's keys, the updater. -/
namespace Go.Proofs.YtikdbpphbdbdnaaGreat
open Go.RowKit

theorem Rep.ext_b0 {L : Lay} {st : St} {w : World} (h : Rep L st w) (f : Nat → Int) (hf : ∀ i, i < 64 → f i = st.b0 i) : Rep L { st with b0 := f } w :=
  ⟨h.brd, fun i hi => by
    show w.cell? ⟨L.p, i, none⟩ = some (.int .u8 (f i)) ∧ _
    rw [hf i hi]
    exact h.r0 i hi, h.r1, h.gp, h.gq, h.pq⟩
theorem Rep.ext_b1 {L : Lay} {st : St} {w : World} (h : Rep L st w) (f : Nat → Int) (hf : ∀ i, i < 64 → f i = st.b1 i) : Rep L { st with b1 := f } w :=
  ⟨h.brd, h.r0, fun i hi => by
    show w.cell? ⟨L.q, i, none⟩ = some (.int .u8 (f i)) ∧ _
    rw [hf i hi]
    exact h.r1 i hi, h.gp, h.gq, h.pq⟩

theorem Kept.p {L : Lay} {a w : World} (h : Kept L.own a w) (j : Nat) (u : Value) : Kept L.own a (w.setCell ⟨L.p, j, none⟩ u) := h.setCell (Or.inl (own_p L)) u
theorem Kept.q {L : Lay} {a w : World} (h : Kept L.own a w) (j : Nat) (u : Value) : Kept L.own a (w.setCell ⟨L.q, j, none⟩ u) := h.setCell (Or.inl (own_q L)) u

set_option maxHeartbeats 400000 in
theorem Rkeys_not {L : Lay} {st : St} {w : World} (hr : Rep L st w) (v : Int) (h : (v == 105) = false) :
    Calls Tryz.prog 96 #[.pointer (some ⟨L.g, 0, none⟩), .int .u8 v] w fun e w' => e = .returned (.tuple #[]) ∧ Rep L (st.keys v) w' ∧ Kept L.own w w' := by
  have HF : Hid (st.keys v = { st with key := (v == 150) }) := by
    have h' : ¬ v = 105 := by simpa using h
    simp [Hid, St.keys, h']
  have c1 := hr.c_key
  have f1 := hr.f_key
  go_enter Tryz.func96, Tryz.ntmps96
  go_wp2
  (first | go_end0 | refine bodyPost_ret (results_none rfl _ _ _) rfl ?_)
  exact ⟨rfl, (hr.set_key _).as HF.out.symm, (Kept.refl _ _).rg _ _⟩

set_option maxHeartbeats 400000 in
theorem Rkeys_unset {L : Lay} {st : St} {w : World} (hr : Rep L st w) (h : st.key = false) :
    Calls Tryz.prog 96 #[.pointer (some ⟨L.g, 0, none⟩), .int .u8 105] w fun e w' => e = .returned (.tuple #[]) ∧ Rep L (st.keys 105) w' ∧ Kept L.own w w' := by
  have HF : Hid (st.keys 105 = { st with key := false }) := by
    simp [Hid, St.keys, h]
  have c1 := hr.c_key
  rw [h] at c1
  have f1 := hr.f_key
  go_enter Tryz.func96, Tryz.ntmps96
  go_wp2
  (first | go_end0 | refine bodyPost_ret (results_none rfl _ _ _) rfl ?_)
  exact ⟨rfl, (hr.set_key _).as HF.out.symm, (Kept.refl _ _).rg _ _⟩

set_option maxHeartbeats 400000 in
theorem Rkeys_early {L : Lay} {st : St} {w : World} (hr : Rep L st w) (h : st.key = true) (ha : st.age < st.window) (hb : st.bank = 0 ∨ st.bank = 1) :
    Calls Tryz.prog 96 #[.pointer (some ⟨L.g, 0, none⟩), .int .u8 105] w fun e w' => e = .returned (.tuple #[]) ∧ Rep L (st.keys 105) w' ∧ Kept L.own w w' := by
  have HF : Hid (st.keys 105 = ({ st with key := false }).reset 3) := by
    simp [Hid, St.keys, h, ha]
  have c1 := hr.c_key
  rw [h] at c1
  have f1 := hr.f_key
  have c2 := hr.c_age
  have c3 := hr.c_window
  go_enter Tryz.func96, Tryz.ntmps96
  go_wp2
  go_quiet (fail)
  go_wp2_with fail
  refine (Rreset_any (st := { st with key := false }) ?hrep 3 (Or.inr hb)).mono ?_
  case hrep => exact (hr.set_key false).drewN _
  rintro e w1 ⟨rfl, hr1, hk1⟩
  have k1 : Kept L.own w w1 := (((Kept.refl _ w).rg _ _).drewN _).trans hk1
  go_wp2
  (first | go_end0 | refine bodyPost_ret (results_none rfl _ _ _) rfl ?_)
  exact ⟨rfl, hr1.as HF.out.symm, k1⟩

set_option maxHeartbeats 400000 in
theorem Rkeys_feed {L : Lay} {st : St} {w : World} (hr : Rep L st w) (h : st.key = true) (ha : ¬ st.age < st.window) :
    Calls Tryz.prog 96 #[.pointer (some ⟨L.g, 0, none⟩), .int .u8 105] w fun e w' => e = .returned (.tuple #[]) ∧ Rep L (st.keys 105) w' ∧ Kept L.own w w' := by
  have HF : Hid (st.keys 105 = { st with key := false, age := 0 }) := by
    simp [Hid, St.keys, h, ha]
  have c1 := hr.c_key
  rw [h] at c1
  have f1 := hr.f_key
  have c2 := hr.c_age
  have f2 := hr.f_age
  have c3 := hr.c_window
  go_enter Tryz.func96, Tryz.ntmps96
  go_wp2
  go_quiet (fail)
  go_wp2
  (first | go_end0 | refine bodyPost_ret (results_none rfl _ _ _) rfl ?_)
  exact ⟨rfl, (((hr.set_key _).set_age _).drewN _).as HF.out.symm, (((Kept.refl _ _).rg _ _).rg _ _).drewN _⟩

theorem Rkeys_any {L : Lay} {st : St} {w : World} (hr : Rep L st w) (hb : st.bank = 0 ∨ st.bank = 1) (v : Int) :
    Calls Tryz.prog 96 #[.pointer (some ⟨L.g, 0, none⟩), .int .u8 v] w fun e w' => e = .returned (.tuple #[]) ∧ Rep L (st.keys v) w' ∧ Kept L.own w w' := by
  by_cases hv : v = 105
  · subst hv
    cases h : st.key
    · exact Rkeys_unset hr h
    · by_cases ha : st.age < st.window
      · exact Rkeys_early hr h ha hb
      · exact Rkeys_feed hr h ha
  · exact Rkeys_not hr v (by simpa using hv)

set_option maxRecDepth 100000 in
set_option maxHeartbeats 400000 in
theorem Rupd_close0 {L : Lay} {st : St} {w : World} (hr : Rep L st w) (v : Int) (hv : (v == 229) = false) (hb : st.bank = 0) :
    Calls Tryz.prog 97 #[.pointer (some ⟨L.g, 0, none⟩), .int .i64 199, .int .u8 v] w fun e w' => e = .returned (.tuple #[]) ∧ Rep L (st.updates 199 v) w' ∧ Kept L.own w w' := by
  have HF : Hid (st.updates 199 v = { st with opn := false }) := by
    have hv' : ¬ v = 229 := by simpa using hv
    simp [Hid, St.updates, hv']
  have cb := hr.c_bank
  rw [hb] at cb
  have cr := hr.c_q
  have c1 := hr.c_opn
  have f1 := hr.f_opn
  clear hb
  go_enter Tryz.func97, Tryz.ntmps97
  go_wp2
  go_quiet (fail)
  go_wp2
  (first | go_end0 | refine bodyPost_ret (results_none rfl _ _ _) rfl ?_)
  exact ⟨rfl, ((hr.set_opn _).drewN _).as HF.out.symm, ((Kept.refl _ _).rg _ _).drewN _⟩

set_option maxRecDepth 100000 in
set_option maxHeartbeats 400000 in
theorem Rupd_place0 {L : Lay} {st : St} {w : World} (hr : Rep L st w) (v : Int) (h0 : 0 ≤ v) (h1 : v ≤ 255) (hb : st.bank = 0) :
    Calls Tryz.prog 97 #[.pointer (some ⟨L.g, 0, none⟩), .int .i64 200, .int .u8 v] w fun e w' => e = .returned (.tuple #[]) ∧ Rep L (st.updates 200 v) w' ∧ Kept L.own w w' := by
  have HF : Hid (st.updates 200 v = { st with place := v % 64 }) := by
    simp [Hid, St.updates]
  have cb := hr.c_bank
  rw [hb] at cb
  have cr := hr.c_q
  have c1 := hr.c_place
  have f1 := hr.f_place
  clear hb
  go_enter Tryz.func97, Tryz.ntmps97
  go_wp2
  go_quiet (fail)
  go_wp2
  (first | go_end0 | refine bodyPost_ret (results_none rfl _ _ _) rfl ?_)
  exact ⟨rfl, ((hr.set_place _).drewN _).as HF.out.symm, ((Kept.refl _ _).rg _ _).drewN _⟩

set_option maxRecDepth 100000 in
set_option maxHeartbeats 400000 in
theorem Rupd_shut0 {L : Lay} {st : St} {w : World} (hr : Rep L st w) (v : Int) (hop : st.opn = false) (hb : st.bank = 0) :
    Calls Tryz.prog 97 #[.pointer (some ⟨L.g, 0, none⟩), .int .i64 201, .int .u8 v] w fun e w' => e = .returned (.tuple #[]) ∧ Rep L (st.updates 201 v) w' ∧ Kept L.own w w' := by
  have HF : Hid (st.updates 201 v = st) := by
    simp [Hid, St.updates, hop]
  have cb := hr.c_bank
  rw [hb] at cb
  have cr := hr.c_q
  have c1 := hr.c_opn
  rw [hop] at c1
  clear hb hop
  go_enter Tryz.func97, Tryz.ntmps97
  go_wp2
  go_quiet (fail)
  go_wp2
  (first | go_end0 | refine bodyPost_ret (results_none rfl _ _ _) rfl ?_)
  exact ⟨rfl, (hr.drewN _).as HF.out.symm, (Kept.refl _ _).drewN _⟩

set_option maxRecDepth 100000 in
set_option maxHeartbeats 400000 in
theorem Rupd_byte0 {L : Lay} {st : St} {w : World} (hr : Rep L st w) (v : Int) (hi : Inv st) (hop : st.opn = true) (hb : st.bank = 0) :
    Calls Tryz.prog 97 #[.pointer (some ⟨L.g, 0, none⟩), .int .i64 201, .int .u8 v] w fun e w' => e = .returned (.tuple #[]) ∧ Rep L (st.updates 201 v) w' ∧ Kept L.own w w' := by
  have HF : Hid (st.updates 201 v = { st with b1 := upd st.b1 st.place.toNat v, place := (st.place + 1) % 64 }) := by
    have e : st.inBank (1 - st.bank) = st.b1 := by funext i; simp [St.inBank, hb]
    simp only [Hid, St.updates, hop, if_true, e]
    simp [St.setBank, hb, hop]
  have cb := hr.c_bank
  rw [hb] at cb
  have cr := hr.c_q
  have c1 := hr.c_opn
  rw [hop] at c1
  have c2 := hr.c_place
  have f2 := hr.f_place
  have hpl := hi.place
  have c3 := (hr.r1 st.place.toNat (by omega)).1
  have f3 := (hr.r1 st.place.toNat (by omega)).2
  have hk4 : st.place < 64 := by omega
  have hk5 : 0 ≤ st.place := hpl.1
  have hne := hr.gq
  clear hb hop hpl
  go_enter Tryz.func97, Tryz.ntmps97
  go_wp2
  go_quiet (fail)
  go_wp2
  (first | go_end0 | refine bodyPost_ret (results_none rfl _ _ _) rfl ?_)
  exact ⟨rfl, (((hr.set_b1 st.place.toNat (by omega) _).set_place _).drewN _).as HF.out.symm, (((Kept.refl _ _).q _ _).rg _ _).drewN _⟩

set_option maxRecDepth 100000 in
set_option maxHeartbeats 400000 in
theorem Rupd_clear0 {L : Lay} {st : St} {w : World} (hr : Rep L st w) (hb : st.bank = 0) :
    Calls Tryz.prog 97 #[.pointer (some ⟨L.g, 0, none⟩), .int .i64 203, .int .u8 13] w fun e w' => e = .returned (.tuple #[]) ∧ Rep L (st.updates 203 13) w' ∧ Kept L.own w w' := by
  have HF : Hid (st.updates 203 13 = { st with s0 := 0 }) := by
    simp [Hid, St.updates, hb, St.setStrikes]
  have cb := hr.c_bank
  rw [hb] at cb
  have cr := hr.c_q
  have c1 := hr.c_s0
  have f1 := hr.f_s0
  clear hb
  go_enter Tryz.func97, Tryz.ntmps97
  go_wp2
  go_quiet (fail)
  go_wp2
  go_region
  (first | go_end0 | refine bodyPost_ret (results_none rfl _ _ _) rfl ?_)
  exact ⟨rfl, (((hr.set_s0 _).drewN _).drew).as HF.out.symm, (((Kept.refl _ _).rg _ _).drewN _).drew⟩

set_option maxRecDepth 100000 in
set_option maxHeartbeats 400000 in
theorem Rupd_stay0 {L : Lay} {st : St} {w : World} (hr : Rep L st w) (v : Int) (hv : (v == 13) = false) (hb : st.bank = 0) :
    Calls Tryz.prog 97 #[.pointer (some ⟨L.g, 0, none⟩), .int .i64 203, .int .u8 v] w fun e w' => e = .returned (.tuple #[]) ∧ Rep L (st.updates 203 v) w' ∧ Kept L.own w w' := by
  have HF : Hid (st.updates 203 v = st) := by
    have hv' : ¬ v = 13 := by simpa using hv
    simp [Hid, St.updates, hv']
  have cb := hr.c_bank
  rw [hb] at cb
  have cr := hr.c_q
  clear hb
  go_enter Tryz.func97, Tryz.ntmps97
  go_wp2
  go_quiet (fail)
  go_wp2
  (first | go_end0 | refine bodyPost_ret (results_none rfl _ _ _) rfl ?_)
  exact ⟨rfl, (hr.drewN _).as HF.out.symm, (Kept.refl _ _).drewN _⟩

set_option maxRecDepth 100000 in
set_option maxHeartbeats 400000 in
theorem Rupd_none0 {L : Lay} {st : St} {w : World} (hr : Rep L st w) (v : Int) (a : Int) (h1 : (a == 199) = false) (h2 : (a == 200) = false) (h3 : (a == 201) = false) (h4 : (a == 203) = false) (hb : st.bank = 0) :
    Calls Tryz.prog 97 #[.pointer (some ⟨L.g, 0, none⟩), .int .i64 a, .int .u8 v] w fun e w' => e = .returned (.tuple #[]) ∧ Rep L (st.updates a v) w' ∧ Kept L.own w w' := by
  have HF : Hid (st.updates a v = st) := by
    have h1' : ¬ a = 199 := by simpa using h1
    have h2' : ¬ a = 200 := by simpa using h2
    have h3' : ¬ a = 201 := by simpa using h3
    have h4' : ¬ a = 203 := by simpa using h4
    simp [Hid, St.updates, h1', h2', h3', h4']
  have cb := hr.c_bank
  rw [hb] at cb
  have cr := hr.c_q
  clear hb
  go_enter Tryz.func97, Tryz.ntmps97
  go_wp2
  go_quiet (fail)
  go_wp2
  (first | go_end0 | refine bodyPost_ret (results_none rfl _ _ _) rfl ?_)
  exact ⟨rfl, (hr.drewN _).as HF.out.symm, (Kept.refl _ _).drewN _⟩

set_option maxRecDepth 100000 in
set_option maxHeartbeats 400000 in
theorem Rupd_close1 {L : Lay} {st : St} {w : World} (hr : Rep L st w) (v : Int) (hv : (v == 229) = false) (hb : st.bank = 1) :
    Calls Tryz.prog 97 #[.pointer (some ⟨L.g, 0, none⟩), .int .i64 199, .int .u8 v] w fun e w' => e = .returned (.tuple #[]) ∧ Rep L (st.updates 199 v) w' ∧ Kept L.own w w' := by
  have HF : Hid (st.updates 199 v = { st with opn := false }) := by
    have hv' : ¬ v = 229 := by simpa using hv
    simp [Hid, St.updates, hv']
  have cb := hr.c_bank
  rw [hb] at cb
  have cr := hr.c_p
  have c1 := hr.c_opn
  have f1 := hr.f_opn
  clear hb
  go_enter Tryz.func97, Tryz.ntmps97
  go_wp2
  go_quiet (fail)
  go_wp2
  (first | go_end0 | refine bodyPost_ret (results_none rfl _ _ _) rfl ?_)
  exact ⟨rfl, ((hr.set_opn _).drewN _).as HF.out.symm, ((Kept.refl _ _).rg _ _).drewN _⟩

set_option maxRecDepth 100000 in
set_option maxHeartbeats 400000 in
theorem Rupd_place1 {L : Lay} {st : St} {w : World} (hr : Rep L st w) (v : Int) (h0 : 0 ≤ v) (h1 : v ≤ 255) (hb : st.bank = 1) :
    Calls Tryz.prog 97 #[.pointer (some ⟨L.g, 0, none⟩), .int .i64 200, .int .u8 v] w fun e w' => e = .returned (.tuple #[]) ∧ Rep L (st.updates 200 v) w' ∧ Kept L.own w w' := by
  have HF : Hid (st.updates 200 v = { st with place := v % 64 }) := by
    simp [Hid, St.updates]
  have cb := hr.c_bank
  rw [hb] at cb
  have cr := hr.c_p
  have c1 := hr.c_place
  have f1 := hr.f_place
  clear hb
  go_enter Tryz.func97, Tryz.ntmps97
  go_wp2
  go_quiet (fail)
  go_wp2
  (first | go_end0 | refine bodyPost_ret (results_none rfl _ _ _) rfl ?_)
  exact ⟨rfl, ((hr.set_place _).drewN _).as HF.out.symm, ((Kept.refl _ _).rg _ _).drewN _⟩

set_option maxRecDepth 100000 in
set_option maxHeartbeats 400000 in
theorem Rupd_shut1 {L : Lay} {st : St} {w : World} (hr : Rep L st w) (v : Int) (hop : st.opn = false) (hb : st.bank = 1) :
    Calls Tryz.prog 97 #[.pointer (some ⟨L.g, 0, none⟩), .int .i64 201, .int .u8 v] w fun e w' => e = .returned (.tuple #[]) ∧ Rep L (st.updates 201 v) w' ∧ Kept L.own w w' := by
  have HF : Hid (st.updates 201 v = st) := by
    simp [Hid, St.updates, hop]
  have cb := hr.c_bank
  rw [hb] at cb
  have cr := hr.c_p
  have c1 := hr.c_opn
  rw [hop] at c1
  clear hb hop
  go_enter Tryz.func97, Tryz.ntmps97
  go_wp2
  go_quiet (fail)
  go_wp2
  (first | go_end0 | refine bodyPost_ret (results_none rfl _ _ _) rfl ?_)
  exact ⟨rfl, (hr.drewN _).as HF.out.symm, (Kept.refl _ _).drewN _⟩

set_option maxRecDepth 100000 in
set_option maxHeartbeats 400000 in
theorem Rupd_byte1 {L : Lay} {st : St} {w : World} (hr : Rep L st w) (v : Int) (hi : Inv st) (hop : st.opn = true) (hb : st.bank = 1) :
    Calls Tryz.prog 97 #[.pointer (some ⟨L.g, 0, none⟩), .int .i64 201, .int .u8 v] w fun e w' => e = .returned (.tuple #[]) ∧ Rep L (st.updates 201 v) w' ∧ Kept L.own w w' := by
  have HF : Hid (st.updates 201 v = { st with b0 := upd st.b0 st.place.toNat v, place := (st.place + 1) % 64 }) := by
    have e : st.inBank (1 - st.bank) = st.b0 := by funext i; simp [St.inBank, hb]
    simp only [Hid, St.updates, hop, if_true, e]
    simp [St.setBank, hb, hop]
  have cb := hr.c_bank
  rw [hb] at cb
  have cr := hr.c_p
  have c1 := hr.c_opn
  rw [hop] at c1
  have c2 := hr.c_place
  have f2 := hr.f_place
  have hpl := hi.place
  have c3 := (hr.r0 st.place.toNat (by omega)).1
  have f3 := (hr.r0 st.place.toNat (by omega)).2
  have hk4 : st.place < 64 := by omega
  have hk5 : 0 ≤ st.place := hpl.1
  have hne := hr.gp
  clear hb hop hpl
  go_enter Tryz.func97, Tryz.ntmps97
  go_wp2
  go_quiet (fail)
  go_wp2
  (first | go_end0 | refine bodyPost_ret (results_none rfl _ _ _) rfl ?_)
  exact ⟨rfl, (((hr.set_b0 st.place.toNat (by omega) _).set_place _).drewN _).as HF.out.symm, (((Kept.refl _ _).p _ _).rg _ _).drewN _⟩

set_option maxRecDepth 100000 in
set_option maxHeartbeats 400000 in
theorem Rupd_clear1 {L : Lay} {st : St} {w : World} (hr : Rep L st w) (hb : st.bank = 1) :
    Calls Tryz.prog 97 #[.pointer (some ⟨L.g, 0, none⟩), .int .i64 203, .int .u8 13] w fun e w' => e = .returned (.tuple #[]) ∧ Rep L (st.updates 203 13) w' ∧ Kept L.own w w' := by
  have HF : Hid (st.updates 203 13 = { st with s1 := 0 }) := by
    simp [Hid, St.updates, hb, St.setStrikes]
  have cb := hr.c_bank
  rw [hb] at cb
  have cr := hr.c_p
  have c1 := hr.c_s1
  have f1 := hr.f_s1
  clear hb
  go_enter Tryz.func97, Tryz.ntmps97
  go_wp2
  go_quiet (fail)
  go_wp2
  go_region
  (first | go_end0 | refine bodyPost_ret (results_none rfl _ _ _) rfl ?_)
  exact ⟨rfl, (((hr.set_s1 _).drewN _).drew).as HF.out.symm, (((Kept.refl _ _).rg _ _).drewN _).drew⟩

set_option maxRecDepth 100000 in
set_option maxHeartbeats 400000 in
theorem Rupd_stay1 {L : Lay} {st : St} {w : World} (hr : Rep L st w) (v : Int) (hv : (v == 13) = false) (hb : st.bank = 1) :
    Calls Tryz.prog 97 #[.pointer (some ⟨L.g, 0, none⟩), .int .i64 203, .int .u8 v] w fun e w' => e = .returned (.tuple #[]) ∧ Rep L (st.updates 203 v) w' ∧ Kept L.own w w' := by
  have HF : Hid (st.updates 203 v = st) := by
    have hv' : ¬ v = 13 := by simpa using hv
    simp [Hid, St.updates, hv']
  have cb := hr.c_bank
  rw [hb] at cb
  have cr := hr.c_p
  clear hb
  go_enter Tryz.func97, Tryz.ntmps97
  go_wp2
  go_quiet (fail)
  go_wp2
  (first | go_end0 | refine bodyPost_ret (results_none rfl _ _ _) rfl ?_)
  exact ⟨rfl, (hr.drewN _).as HF.out.symm, (Kept.refl _ _).drewN _⟩

set_option maxRecDepth 100000 in
set_option maxHeartbeats 400000 in
theorem Rupd_none1 {L : Lay} {st : St} {w : World} (hr : Rep L st w) (v : Int) (a : Int) (h1 : (a == 199) = false) (h2 : (a == 200) = false) (h3 : (a == 201) = false) (h4 : (a == 203) = false) (hb : st.bank = 1) :
    Calls Tryz.prog 97 #[.pointer (some ⟨L.g, 0, none⟩), .int .i64 a, .int .u8 v] w fun e w' => e = .returned (.tuple #[]) ∧ Rep L (st.updates a v) w' ∧ Kept L.own w w' := by
  have HF : Hid (st.updates a v = st) := by
    have h1' : ¬ a = 199 := by simpa using h1
    have h2' : ¬ a = 200 := by simpa using h2
    have h3' : ¬ a = 201 := by simpa using h3
    have h4' : ¬ a = 203 := by simpa using h4
    simp [Hid, St.updates, h1', h2', h3', h4']
  have cb := hr.c_bank
  rw [hb] at cb
  have cr := hr.c_p
  clear hb
  go_enter Tryz.func97, Tryz.ntmps97
  go_wp2
  go_quiet (fail)
  go_wp2
  (first | go_end0 | refine bodyPost_ret (results_none rfl _ _ _) rfl ?_)
  exact ⟨rfl, (hr.drewN _).as HF.out.symm, (Kept.refl _ _).drewN _⟩

set_option maxRecDepth 100000 in
set_option maxHeartbeats 400000 in
theorem Rupd_open0 {L : Lay} {st : St} {w : World} (hr : Rep L st w) (hb : st.bank = 0) :
    Calls Tryz.prog 97 #[.pointer (some ⟨L.g, 0, none⟩), .int .i64 199, .int .u8 229] w fun e w' => e = .returned (.tuple #[]) ∧ Rep L (st.updates 199 229) w' ∧ Kept L.own w w' := by
  have HF : Hid (st.updates 199 229 = { st with opn := true, b1 := fun _ => 255, place := 0 }) := by
    simp [Hid, St.updates, hb, St.setBank]
  have cb := hr.c_bank
  rw [hb] at cb
  have cr := hr.c_q
  have c1 := hr.c_opn
  have f1 := hr.f_opn
  clear hb
  go_enter Tryz.func97, Tryz.ntmps97
  go_wp2
  go_quiet (fail)
  go_wp2
  have hr1 := (hr.set_opn true).drewN nq
  have k1 := ((Kept.refl L.own w).rg 153 (.bool true)).drewN nq
  go_loopw [7] (fun i wx => ∃ j : Nat, j ≤ 64 ∧ i = .int .i64 j ∧ Rep L { st with opn := true, b1 := fun i => if i < j then 255 else st.b1 i } wx ∧ Kept L.own w wx) (fun i _ => 64 - (intOf i).toNat)
  case atStart => exact ⟨0, by omega, rfl, hr1.as (by simp), k1⟩
  case round =>
    obtain ⟨j, hj, rfl, hx, kx⟩ := hrel
    clear hr1 k1 hr cb cr c1 f1
    by_cases hlt : j < 64
    · have hlt' : (j : Int) < 64 := by omega
      have c3 := (hx.r1 j hlt).1
      have f3 := (hx.r1 j hlt).2
      go_wp2
      exact ⟨⟨j + 1, by omega, by go_num, (hx.set_b1 j hlt 255).as (by
        simp only [St.mk.injEq, true_and, and_true]
        funext i
        simp only [upd]
        by_cases e : i = j
        · subst e; simp
        · rw [if_neg e]
          by_cases e2 : i < j
          · rw [if_pos e2, if_pos (by omega)]
          · rw [if_neg e2, if_neg (by omega)]), kx.q _ _⟩, by simp [intOf]; omega⟩
    · obtain rfl : j = 64 := by omega
      have c4 := hx.c_place
      have f4 := hx.f_place
      go_wp2
      (first | go_end0 | refine bodyPost_ret (results_none rfl _ _ _) rfl ?_)
      exact ⟨rfl, ((hx.ext_b1 (fun _ => 255) (fun i hi => by simp [hi])).set_place 0).as HF.out.symm, kx.rg _ _⟩

set_option maxRecDepth 100000 in
set_option maxHeartbeats 400000 in
theorem Rupd_open1 {L : Lay} {st : St} {w : World} (hr : Rep L st w) (hb : st.bank = 1) :
    Calls Tryz.prog 97 #[.pointer (some ⟨L.g, 0, none⟩), .int .i64 199, .int .u8 229] w fun e w' => e = .returned (.tuple #[]) ∧ Rep L (st.updates 199 229) w' ∧ Kept L.own w w' := by
  have HF : Hid (st.updates 199 229 = { st with opn := true, b0 := fun _ => 255, place := 0 }) := by
    simp [Hid, St.updates, hb, St.setBank]
  have cb := hr.c_bank
  rw [hb] at cb
  have cr := hr.c_p
  have c1 := hr.c_opn
  have f1 := hr.f_opn
  clear hb
  go_enter Tryz.func97, Tryz.ntmps97
  go_wp2
  go_quiet (fail)
  go_wp2
  have hr1 := (hr.set_opn true).drewN nq
  have k1 := ((Kept.refl L.own w).rg 153 (.bool true)).drewN nq
  go_loopw [7] (fun i wx => ∃ j : Nat, j ≤ 64 ∧ i = .int .i64 j ∧ Rep L { st with opn := true, b0 := fun i => if i < j then 255 else st.b0 i } wx ∧ Kept L.own w wx) (fun i _ => 64 - (intOf i).toNat)
  case atStart => exact ⟨0, by omega, rfl, hr1.as (by simp), k1⟩
  case round =>
    obtain ⟨j, hj, rfl, hx, kx⟩ := hrel
    clear hr1 k1 hr cb cr c1 f1
    by_cases hlt : j < 64
    · have hlt' : (j : Int) < 64 := by omega
      have c3 := (hx.r0 j hlt).1
      have f3 := (hx.r0 j hlt).2
      go_wp2
      exact ⟨⟨j + 1, by omega, by go_num, (hx.set_b0 j hlt 255).as (by
        simp only [St.mk.injEq, true_and, and_true]
        funext i
        simp only [upd]
        by_cases e : i = j
        · subst e; simp
        · rw [if_neg e]
          by_cases e2 : i < j
          · rw [if_pos e2, if_pos (by omega)]
          · rw [if_neg e2, if_neg (by omega)]), kx.p _ _⟩, by simp [intOf]; omega⟩
    · obtain rfl : j = 64 := by omega
      have c4 := hx.c_place
      have f4 := hx.f_place
      go_wp2
      (first | go_end0 | refine bodyPost_ret (results_none rfl _ _ _) rfl ?_)
      exact ⟨rfl, ((hx.ext_b0 (fun _ => 255) (fun i hi => by simp [hi])).set_place 0).as HF.out.symm, kx.rg _ _⟩

theorem Rupdates_any {L : Lay} {st : St} {w : World} (hr : Rep L st w) (hi : Inv st) (hb : st.bank = 0 ∨ st.bank = 1) (a v : Int) (h0 : 0 ≤ v) (h1 : v ≤ 255) :
    Calls Tryz.prog 97 #[.pointer (some ⟨L.g, 0, none⟩), .int .i64 a, .int .u8 v] w fun e w' => e = .returned (.tuple #[]) ∧ Rep L (st.updates a v) w' ∧ Kept L.own w w' := by
  by_cases e1 : a = 199
  · subst e1
    by_cases ev : v = 229
    · subst ev
      rcases hb with hb | hb
      · exact Rupd_open0 hr hb
      · exact Rupd_open1 hr hb
    · rcases hb with hb | hb
      · exact Rupd_close0 hr v (by simpa using ev) hb
      · exact Rupd_close1 hr v (by simpa using ev) hb
  by_cases e2 : a = 200
  · subst e2
    rcases hb with hb | hb
    · exact Rupd_place0 hr v h0 h1 hb
    · exact Rupd_place1 hr v h0 h1 hb
  by_cases e3 : a = 201
  · subst e3
    cases hop : st.opn
    · rcases hb with hb | hb
      · exact Rupd_shut0 hr v hop hb
      · exact Rupd_shut1 hr v hop hb
    · rcases hb with hb | hb
      · exact Rupd_byte0 hr v hi hop hb
      · exact Rupd_byte1 hr v hi hop hb
  by_cases e4 : a = 203
  · subst e4
    by_cases ev : v = 13
    · subst ev
      rcases hb with hb | hb
      · exact Rupd_clear0 hr hb
      · exact Rupd_clear1 hr hb
    · rcases hb with hb | hb
      · exact Rupd_stay0 hr v (by simpa using ev) hb
      · exact Rupd_stay1 hr v (by simpa using ev) hb
  · rcases hb with hb | hb
    · exact Rupd_none0 hr v a (by simpa using e1) (by simpa using e2) (by simpa using e3) (by simpa using e4) hb
    · exact Rupd_none1 hr v a (by simpa using e1) (by simpa using e2) (by simpa using e3) (by simpa using e4) hb


end Go.Proofs.YtikdbpphbdbdnaaGreat
