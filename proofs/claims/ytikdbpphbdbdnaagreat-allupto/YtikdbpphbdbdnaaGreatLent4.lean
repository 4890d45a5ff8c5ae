/- The caller's book of lists: how they lie; looks. -/
import Derived.Test.YtikdbpphbdbdnaaGreatLent3
namespace Go.Proofs.YtikdbpphbdbdnaaGreat
open Go.RowKit
set_option linter.unusedVariables false

/-- A list that came out and waits. -/
structure WaitE where
  c : Nat
  n : Nat
  cy : Nat → Cy
  v : Value

/-- A list that came out and was marked and made longer. -/
structure SeenE where
  k : Int
  c : Nat
  n : Nat
  g1 : Nat
  g2 : Nat
  g3 : Nat
  c1 : Nat
  c2 : Nat
  c3 : Nat

/-- A list that was handed in and marked. -/
structure LentE where
  k : Int
  b : Nat
  n : Nat

def waitCell (e : WaitE) : Value := .slice (some ⟨e.c, 0, none⟩) e.n e.n
def seenCell (e : SeenE) : List Value := [.int .i64 e.k, .int .i64 0, .int .u8 0, .int .u8 0, .slice (some ⟨e.c, 0, none⟩) e.n e.n, .slice (some ⟨e.g1, 0, none⟩) (e.n + 1) e.c1, .slice (some ⟨e.g2, 0, none⟩) (e.n + 2) e.c2, .slice (some ⟨e.g3, 0, none⟩) (e.n + 3) e.c3]
def lentCell (e : LentE) : List Value := [.bool false, .int .i64 e.k, .int .u8 0, .slice (some ⟨e.b, 0, none⟩) e.n e.n]

/-- A row of inputs, all of them this one. -/
def MarkedI (w : World) (b n : Nat) (k : Int) : Prop := ∀ i, i < n → w.cell? ⟨b, i * 3, none⟩ = some (.bool false) ∧ w.cell? ⟨b, i * 3 + 1, none⟩ = some (.int .i64 k) ∧ w.cell? ⟨b, i * 3 + 2, none⟩ = some (.int .u8 0)

theorem MarkedI.same {w w' : World} {b n : Nat} {k : Int} (h : MarkedI w b n k) (e : w'.heap[b]? = w.heap[b]?) : MarkedI w' b n k := fun i hi => by
  obtain ⟨h0, h1, h2⟩ := h i hi
  exact ⟨(World.cell?_of_block (w := w) e).trans h0, (World.cell?_of_block (w := w) e).trans h1, (World.cell?_of_block (w := w) e).trans h2⟩

structure WaitOk (ρ : Nat → Nat) (base i : Nat) (e : WaitE) (w : World) : Prop where
  r : ρ e.c = 6 + i
  n : e.n ≤ 1048576
  cy : CysAt w e.c e.n e.cy
  v : w.ownsRow base 54 4 e.v e.n (cysCells e.cy e.n)
  b : ∀ k, e.v.ownBlock = some k → ρ k = 1

structure SeenOk (ρ : Nat → Nat) (e : SeenE) (w : World) : Prop where
  r0 : ρ e.c = 1
  r1 : ρ e.g1 = 1
  r2 : ρ e.g2 = 1
  r3 : ρ e.g3 = 1
  n : e.n ≤ 1048576
  m0 : Marked w e.c e.n e.k
  m1 : Marked w e.g1 (e.n + 1) e.k
  m2 : Marked w e.g2 (e.n + 2) e.k
  m3 : Marked w e.g3 (e.n + 3) e.k

structure LentOk (ρ : Nat → Nat) (e : LentE) (w : World) : Prop where
  r : ρ e.b = 1
  n : e.n ≤ 1048584
  m : MarkedI w e.b e.n e.k

/-- All the lists. -/
structure Ls where
  m : Int
  vw : Value
  vr : Value
  vs : Value
  vl : Value
  ws : List WaitE
  se : List SeenE
  le : List LentE

/-- The lists in the book at block g. ρ: what a block is for: 0: none of these; 1: a list that is written no more; 2 to 5: the rows; 6 + i: the list that waits at i. -/
structure BookL (g base : Nat) (ρ : Nat → Nat) (s : Ls) (w : World) : Prop where
  gb : g < base
  lo : ∀ k, ρ k ≠ 0 → base ≤ k ∧ k < w.heap.size
  c1 : w.cell? ⟨g, 1, none⟩ = some (.int .i64 s.m)
  c2 : w.cell? ⟨g, 2, none⟩ = some s.vw
  c3 : w.cell? ⟨g, 3, none⟩ = some s.vr
  c4 : w.cell? ⟨g, 4, none⟩ = some s.vs
  c5 : w.cell? ⟨g, 5, none⟩ = some s.vl
  fz : ∀ j, 1 ≤ j → j < 6 → w.frozen? ⟨g, j, none⟩ = false
  rw : w.ownsRow base 52 1 s.vw s.ws.length (s.ws.map waitCell)
  rr : w.ownsRow base 52 1 s.vr s.ws.length (s.ws.map (·.v))
  rs : w.ownsRow base 56 8 s.vs s.se.length (s.se.flatMap seenCell)
  rl : w.ownsRow base 59 4 s.vl s.le.length (s.le.flatMap lentCell)
  bw : ∀ k, s.vw.ownBlock = some k → ρ k = 2
  br : ∀ k, s.vr.ownBlock = some k → ρ k = 3
  bs : ∀ k, s.vs.ownBlock = some k → ρ k = 4
  bl : ∀ k, s.vl.ownBlock = some k → ρ k = 5
  ew : ∀ (i : Nat) (e : WaitE), s.ws[i]? = some e → WaitOk ρ base i e w
  es : ∀ (i : Nat) (e : SeenE), s.se[i]? = some e → SeenOk ρ e w
  el : ∀ (i : Nat) (e : LentE), s.le[i]? = some e → LentOk ρ e w
  m0 : 0 ≤ s.m

theorem WaitOk.same {ρ : Nat → Nat} {base i : Nat} {e : WaitE} {w w' : World} (h : WaitOk ρ base i e w) (hb : ∀ k, ρ k ≠ 0 → w'.heap[k]? = w.heap[k]?) : WaitOk ρ base i e w' :=
  ⟨h.r, h.n, fun k hk => by
    have e1 := hb e.c (by rw [h.r]; omega)
    exact ⟨(World.cell?_of_block (w := w) (a := ⟨e.c, k, none⟩) e1).trans (h.cy k hk).1, (World.frozen?_of_block (w := w) (a := ⟨e.c, k, none⟩) e1).trans (h.cy k hk).2⟩,
    ownsRow_same h.v (fun k hk => hb k (by rw [h.b k hk]; omega)), h.b⟩

theorem SeenOk.same {ρ : Nat → Nat} {e : SeenE} {w w' : World} (h : SeenOk ρ e w) (hb : ∀ k, ρ k ≠ 0 → w'.heap[k]? = w.heap[k]?) : SeenOk ρ e w' :=
  ⟨h.r0, h.r1, h.r2, h.r3, h.n, h.m0.same (hb _ (by rw [h.r0]; omega)), h.m1.same (hb _ (by rw [h.r1]; omega)), h.m2.same (hb _ (by rw [h.r2]; omega)), h.m3.same (hb _ (by rw [h.r3]; omega))⟩

theorem LentOk.same {ρ : Nat → Nat} {e : LentE} {w w' : World} (h : LentOk ρ e w) (hb : ∀ k, ρ k ≠ 0 → w'.heap[k]? = w.heap[k]?) : LentOk ρ e w' :=
  ⟨h.r, h.n, h.m.same (hb _ (by rw [h.r]; omega))⟩

/-- Where none of it was touched it stands. -/
theorem BookL.same {g base : Nat} {ρ : Nat → Nat} {s : Ls} {w w' : World} (h : BookL g base ρ s w) (hb : ∀ k, ρ k ≠ 0 → w'.heap[k]? = w.heap[k]?) (hc : ∀ j, 1 ≤ j → j < 6 → w'.cell? ⟨g, j, none⟩ = w.cell? ⟨g, j, none⟩) (hf : ∀ j, 1 ≤ j → j < 6 → w'.frozen? ⟨g, j, none⟩ = w.frozen? ⟨g, j, none⟩) (hz : w.heap.size ≤ w'.heap.size) : BookL g base ρ s w' :=
  ⟨h.gb, fun k hk => ⟨(h.lo k hk).1, Nat.lt_of_lt_of_le (h.lo k hk).2 hz⟩, (hc 1 (by omega) (by omega)).trans h.c1, (hc 2 (by omega) (by omega)).trans h.c2, (hc 3 (by omega) (by omega)).trans h.c3, (hc 4 (by omega) (by omega)).trans h.c4, (hc 5 (by omega) (by omega)).trans h.c5, fun j j1 j6 => (hf j j1 j6).trans (h.fz j j1 j6),
    ownsRow_same h.rw (fun k hk => hb k (by rw [h.bw k hk]; omega)), ownsRow_same h.rr (fun k hk => hb k (by rw [h.br k hk]; omega)), ownsRow_same h.rs (fun k hk => hb k (by rw [h.bs k hk]; omega)), ownsRow_same h.rl (fun k hk => hb k (by rw [h.bl k hk]; omega)), h.bw, h.br, h.bs, h.bl,
    fun i e he => (h.ew i e he).same hb, fun i e he => (h.es i e he).same hb, fun i e he => (h.el i e he).same hb, h.m0⟩

theorem BookL.kept {S : Nat → Prop} {g base : Nat} {ρ : Nat → Nat} {s : Ls} {w w' : World} (h : BookL g base ρ s w) (hk : Kept S w w') (hg : ¬ S g) (hS : ∀ k, S k → ρ k = 0) : BookL g base ρ s w' :=
  h.same (fun k hk2 => hk.block k (h.lo k hk2).2 (fun x => hk2 (hS k x))) (fun j _ _ => hk.cell (lt_of_cell h.c1) hg j) (fun j _ _ => hk.frozen (lt_of_cell h.c1) hg j) hk.size

/-- The cells of the i-th element of a row. -/
theorem flat_at {α : Type} (f : α → List Value) (m : Nat) (hf : ∀ a, (f a).length = m) : ∀ (l : List α) (i : Nat) (a : α) (t : Nat), l[i]? = some a → t < m → (l.flatMap f)[i * m + t]? = (f a)[t]?
  | [], i, a, t, h, _ => by simp at h
  | x :: r, 0, a, t, h, ht => by
    simp only [List.getElem?_cons_zero, Option.some.injEq] at h
    subst h
    rw [List.flatMap_cons, Nat.zero_mul, Nat.zero_add, List.getElem?_append_left (by rw [hf]; exact ht)]
  | x :: r, i + 1, a, t, h, ht => by
    simp only [List.getElem?_cons_succ] at h
    have ih := flat_at f m hf r i a t h ht
    rw [List.flatMap_cons, List.getElem?_append_right (by rw [hf, Nat.add_mul]; omega), hf, show (i + 1) * m + t - m = i * m + t by rw [Nat.add_mul]; omega]
    exact ih

/-- A row that is not empty, opened at one element. -/
theorem rowE_at {α : Type} (f : α → List Value) (m : Nat) (hf : ∀ a, (f a).length = m) {w : World} {base : Nat} {e : TypeId} {v : Value} {l : List α} (h : w.ownsRow base e m v l.length (l.flatMap f)) {i : Nat} {a : α} (ha : l[i]? = some a) :
    ∃ rb cap, v = .slice (some ⟨rb, 0, none⟩) l.length cap ∧ rb < w.heap.size ∧ ∀ t u, (f a)[t]? = some u → w.cell? ⟨rb, i * m + t, none⟩ = some u := by
  have hi : i < l.length := (List.getElem?_eq_some_iff.1 ha).1
  rcases h.2 with ⟨_, h0⟩ | ⟨rb, cap, cur, hv, hb, hg, hn, hm, hsz, hxs⟩
  · omega
  · refine ⟨rb, cap, hv, (Array.getElem?_eq_some_iff.1 hg).1, fun t u hu => ?_⟩
    have ht : t < m := by have := (List.getElem?_eq_some_iff.1 hu).1; rw [hf] at this; exact this
    have q := flat_at f m hf l i a t ha ht
    rw [← hxs, hu] at q
    have hlt : i * m + t < l.length * m := by
      have h1 : i * m + m ≤ l.length * m := by
        have := Nat.mul_le_mul_right m (show i + 1 ≤ l.length by omega)
        rw [Nat.add_mul, Nat.one_mul] at this
        exact this
      omega
    rw [List.getElem?_take_of_lt hlt, Array.getElem?_toList] at q
    simp [World.cell?, hg, q]

set_option maxRecDepth 100000 in
set_option maxHeartbeats 2000000 in
theorem looks_any {g base : Nat} {ρ : Nat → Nat} {s : Ls} {w : World} (h : BookL g base ρ s w) (hl1 : s.se.length ≤ maxLen) (hl2 : s.le.length ≤ maxLen) :
    Calls Tryz.prog 11 #[.pointer (some ⟨g, 0, none⟩)] w fun e w' => e = .returned (.bool true) ∧ Kept (fun _ => False) w w' := by
  have hg := lt_of_cell h.c1
  have hc4 := h.c4
  have hc5 := h.c5
  unfold maxLen at hl1 hl2
  obtain ⟨sa, scap, hvs⟩ : ∃ sa scap, s.vs = .slice sa s.se.length scap := by
    rcases h.rs.2 with ⟨x, y⟩ | ⟨rb, cap, cur, x, _⟩
    · exact ⟨none, 0, by rw [x, y]⟩
    · exact ⟨_, _, x⟩
  obtain ⟨la, lcap, hvl⟩ : ∃ la lcap, s.vl = .slice la s.le.length lcap := by
    rcases h.rl.2 with ⟨x, y⟩ | ⟨rb, cap, cur, x, _⟩
    · exact ⟨none, 0, by rw [x, y]⟩
    · exact ⟨_, _, x⟩
  rw [hvs] at hc4
  rw [hvl] at hc5
  go_enter Tryz.func11, Tryz.ntmps11
  go_wp2
  go_loopw [3] (fun t wx => ∃ j : Nat, j ≤ s.se.length ∧ t = .int .i64 j ∧ Kept (fun _ => False) w wx) (fun t _ => s.se.length - (intOf t).toNat)
  case atStart => exact ⟨0, by omega, rfl, Kept.refl _ _⟩
  case round =>
    obtain ⟨j, hj, rfl, hk⟩ := hrel
    have e4 : wr.cell? ⟨g, 4, none⟩ = some (.slice sa s.se.length scap) := by rw [hk.cell hg (fun x => x)]; exact hc4
    have e5 : wr.cell? ⟨g, 5, none⟩ = some (.slice la s.le.length lcap) := by rw [hk.cell hg (fun x => x)]; exact hc5
    by_cases hjn : j < s.se.length
    · have hjn' : (j : Int) < (s.se.length : Int) := by omega
      obtain ⟨e, he⟩ : ∃ e, s.se[j]? = some e := ⟨s.se[j], List.getElem?_eq_getElem hjn⟩
      obtain ⟨rb, cap, hv, hrb, hcells⟩ := rowE_at seenCell 8 (fun _ => rfl) h.rs he
      rw [hvs] at hv
      obtain ⟨rfl, rfl⟩ : sa = some ⟨rb, 0, none⟩ ∧ scap = cap := by simp at hv; exact hv
      have ok := h.es j e he
      have q : ∀ t u, (seenCell e)[t]? = some u → wr.cell? ⟨rb, j * 8 + t, none⟩ = some u := fun t u hu => by rw [hk.cell hrb (fun x => x)]; exact hcells t u hu
      have q0 : wr.cell? ⟨rb, j * 8, none⟩ = some (.int .i64 e.k) := q 0 _ rfl
      have q1 : wr.cell? ⟨rb, j * 8 + 1, none⟩ = some (.int .i64 0) := q 1 _ rfl
      have q2 : wr.cell? ⟨rb, j * 8 + 2, none⟩ = some (.int .u8 0) := q 2 _ rfl
      have q3 : wr.cell? ⟨rb, j * 8 + 3, none⟩ = some (.int .u8 0) := q 3 _ rfl
      have q4 : wr.cell? ⟨rb, j * 8 + 4, none⟩ = some (.slice (some ⟨e.c, 0, none⟩) e.n e.n) := q 4 _ rfl
      have q5 : wr.cell? ⟨rb, j * 8 + 5, none⟩ = some (.slice (some ⟨e.g1, 0, none⟩) (e.n + 1) e.c1) := q 5 _ rfl
      have q6 : wr.cell? ⟨rb, j * 8 + 6, none⟩ = some (.slice (some ⟨e.g2, 0, none⟩) (e.n + 2) e.c2) := q 6 _ rfl
      have q7 : wr.cell? ⟨rb, j * 8 + 7, none⟩ = some (.slice (some ⟨e.g3, 0, none⟩) (e.n + 3) e.c3) := q 7 _ rfl
      clear q hcells hv
      have hlo : ∀ b, ρ b = 1 → b < w.heap.size := fun b hb => (h.lo b (by omega)).2
      have HAll : Hid (∀ (W : World) (b n cap : Nat), Kept (fun _ => False) wr W → ρ b = 1 → n ≤ 1048579 → Marked w b n e.k → Calls Tryz.prog 20 #[.slice (some ⟨b, 0, none⟩) n cap, .agg #[.int .i64 e.k, .int .i64 0, .int .u8 0, .int .u8 0]] W fun e w' => e = .returned (.bool true) ∧ Kept (fun _ => False) W w') := fun W b n cap hk2 hb hn hm =>
        (all_any W b n cap e.k (by unfold maxLen; omega) (Nat.lt_of_lt_of_le (hlo b hb) (Nat.le_trans hk.size hk2.size)) (hm.same ((hk.trans hk2).block b (hlo b hb) (fun x => x)))).mono fun e w' ⟨q1, q2⟩ => ⟨q1, Kept.below q2⟩
      obtain ⟨r0, r1, r2, r3, hn, m0, m1, m2, m3⟩ := ok
      go_wp2_with fail
      refine Calls.mono (HAll.out _ e.c e.n e.n ((Kept.refl _ wr).alloc _) r0 (by omega) m0) ?_
      rintro e' w1 ⟨rfl, k1⟩
      obtain ⟨hc1, hf1⟩ := kcell k1 (b := wr.heap.size) (by simp) (fun x => x)
      have z1 : wr.heap.size < w1.heap.size := by have := k1.size; rw [World.size_alloc] at this; omega
      have K1 : Kept (fun _ => False) wr w1 := ((Kept.refl _ wr).alloc _).trans k1
      clear k1
      go_wp2_with fail
      refine Calls.mono (HAll.out _ e.g1 (e.n + 1) e.c1 K1 r1 (by omega) m1) ?_
      rintro e' w2 ⟨rfl, k2⟩
      obtain ⟨hc2, hf2⟩ := kcell k2 (b := wr.heap.size) z1 (fun x => x)
      have z2 : wr.heap.size < w2.heap.size := Nat.lt_of_lt_of_le z1 k2.size
      have K2 : Kept (fun _ => False) wr w2 := K1.trans k2
      clear k2
      go_wp2_with fail
      refine Calls.mono (HAll.out _ e.g2 (e.n + 2) e.c2 K2 r2 (by omega) m2) ?_
      rintro e' w3 ⟨rfl, k3⟩
      obtain ⟨hc3, hf3⟩ := kcell k3 (b := wr.heap.size) z2 (fun x => x)
      have z3 : wr.heap.size < w3.heap.size := Nat.lt_of_lt_of_le z2 k3.size
      have K3 : Kept (fun _ => False) wr w3 := K2.trans k3
      clear k3
      go_wp2_with fail
      refine Calls.mono (HAll.out _ e.g3 (e.n + 3) e.c3 K3 r3 (by omega) m3) ?_
      rintro e' w4 ⟨rfl, k4⟩
      have K4 : Kept (fun _ => False) wr w4 := K3.trans k4
      clear HAll hc1 hc2 hc3 hf1 hf2 hf3
      go_wp2
      exact ⟨⟨j + 1, by omega, by go_num, hk.trans K4⟩, by simp [intOf]; omega⟩
    · have hjn' : ¬ (j : Int) < (s.se.length : Int) := by omega
      clear hc4 hc5
      go_wp2
      go_loopw [9] (fun t wx => ∃ j : Nat, j ≤ s.le.length ∧ t = .int .i64 j ∧ Kept (fun _ => False) w wx) (fun t _ => s.le.length - (intOf t).toNat)
      case atStart => exact ⟨0, by omega, rfl, hk⟩
      case round =>
        clear e4 e5 hjn' hjn hj hk
        obtain ⟨j, hj, rfl, hk⟩ := hrel
        have e5 : wr.cell? ⟨g, 5, none⟩ = some (.slice la s.le.length lcap) := by rw [hk.cell hg (fun x => x), h.c5, hvl]
        by_cases hjn : j < s.le.length
        · have hjn' : (j : Int) < (s.le.length : Int) := by omega
          obtain ⟨e, he⟩ : ∃ e, s.le[j]? = some e := ⟨s.le[j], List.getElem?_eq_getElem hjn⟩
          obtain ⟨rb, cap, hv, hrb, hcells⟩ := rowE_at lentCell 4 (fun _ => rfl) h.rl he
          rw [hvl] at hv
          obtain ⟨rfl, rfl⟩ : la = some ⟨rb, 0, none⟩ ∧ lcap = cap := by simp at hv; exact hv
          have ok := h.el j e he
          have q : ∀ t u, (lentCell e)[t]? = some u → wr.cell? ⟨rb, j * 4 + t, none⟩ = some u := fun t u hu => by rw [hk.cell hrb (fun x => x)]; exact hcells t u hu
          have q0 : wr.cell? ⟨rb, j * 4, none⟩ = some (.bool false) := q 0 _ rfl
          have q1 : wr.cell? ⟨rb, j * 4 + 1, none⟩ = some (.int .i64 e.k) := q 1 _ rfl
          have q2 : wr.cell? ⟨rb, j * 4 + 2, none⟩ = some (.int .u8 0) := q 2 _ rfl
          have q3 : wr.cell? ⟨rb, j * 4 + 3, none⟩ = some (.slice (some ⟨e.b, 0, none⟩) e.n e.n) := q 3 _ rfl
          clear q hcells hv
          have hbz : e.b < w.heap.size := (h.lo e.b (by rw [ok.r]; omega)).2
          have hn := ok.n
          obtain ⟨wz, rfl⟩ : ∃ wz : World, wz = wr := ⟨_, rfl⟩
          obtain ⟨W0, hW0⟩ : ∃ W0 : World, W0 = wz.alloc (.cells #[.bool false, .int .i64 e.k, .int .u8 0, .slice (some ⟨e.b, 0, none⟩) e.n e.n] 59) := ⟨_, rfl⟩
          have z0 : W0.heap.size = wz.heap.size + 1 := by rw [hW0, World.size_alloc]
          have k0 : Kept (fun _ => False) w W0 := by rw [hW0]; exact hk.alloc _
          have hm : MarkedI W0 e.b e.n e.k := ok.m.same (k0.block _ hbz (fun x => x))
          have cb : W0.cell? ⟨wz.heap.size, 0, none⟩ = some (.bool false) ∧ W0.cell? ⟨wz.heap.size, 1, none⟩ = some (.int .i64 e.k) ∧ W0.cell? ⟨wz.heap.size, 2, none⟩ = some (.int .u8 0) ∧ W0.cell? ⟨wz.heap.size, 3, none⟩ = some (.slice (some ⟨e.b, 0, none⟩) e.n e.n) := by
            rw [hW0]
            exact ⟨by simp [go_sem], by simp [go_sem], by simp [go_sem], by simp [go_sem]⟩
          have hbz0 : e.b < W0.heap.size := Nat.lt_of_lt_of_le hbz k0.size
          go_wp2
          rw [← hW0]
          clear hW0 ok q0 q1 q2 q3
          go_loopw [11] (fun t wx => ∃ i : Nat, i ≤ e.n ∧ t = .int .i64 i ∧ Kept (fun _ => False) W0 wx) (fun t _ => e.n - (intOf t).toNat)
          case atStart => exact ⟨0, by omega, rfl, Kept.refl _ _⟩
          case round =>
            obtain ⟨i, hi, rfl, hkx⟩ := hrel
            have b3 : wr.cell? ⟨wz.heap.size, 3, none⟩ = some (.slice (some ⟨e.b, 0, none⟩) e.n e.n) := by rw [hkx.cell (b := wz.heap.size) (by omega) (fun x => x)]; exact cb.2.2.2
            by_cases hin : i < e.n
            · have hin' : (i : Int) < (e.n : Int) := by omega
              obtain ⟨d0, d1, d2⟩ := hm i hin
              have HSx : Hid (∀ W : World, Kept (fun _ => False) W0 W → W.cell? ⟨wz.heap.size, 0, none⟩ = some (.bool false) ∧ W.cell? ⟨wz.heap.size, 1, none⟩ = some (.int .i64 e.k) ∧ W.cell? ⟨wz.heap.size, 2, none⟩ = some (.int .u8 0) ∧ W.cell? ⟨wz.heap.size, 3, none⟩ = some (.slice (some ⟨e.b, 0, none⟩) e.n e.n) ∧ W.cell? ⟨e.b, i * 3, none⟩ = some (.bool false) ∧ W.cell? ⟨e.b, i * 3 + 1, none⟩ = some (.int .i64 e.k) ∧ W.cell? ⟨e.b, i * 3 + 2, none⟩ = some (.int .u8 0)) := fun W hW =>
                ⟨by rw [hW.cell (b := wz.heap.size) (by omega) (fun x => x)]; exact cb.1, by rw [hW.cell (b := wz.heap.size) (by omega) (fun x => x)]; exact cb.2.1, by rw [hW.cell (b := wz.heap.size) (by omega) (fun x => x)]; exact cb.2.2.1, by rw [hW.cell (b := wz.heap.size) (by omega) (fun x => x)]; exact cb.2.2.2,
                  by rw [hW.cell (b := e.b) hbz0 (fun x => x)]; exact d0, by rw [hW.cell (b := e.b) hbz0 (fun x => x)]; exact d1, by rw [hW.cell (b := e.b) hbz0 (fun x => x)]; exact d2⟩
              clear d0 d1 d2
              go_wp2
              go_region_held3 (fun W => W.cell? ⟨wz.heap.size, 0, none⟩ = some (.bool false) ∧ W.cell? ⟨wz.heap.size, 1, none⟩ = some (.int .i64 e.k) ∧ W.cell? ⟨wz.heap.size, 2, none⟩ = some (.int .u8 0) ∧ W.cell? ⟨wz.heap.size, 3, none⟩ = some (.slice (some ⟨e.b, 0, none⟩) e.n e.n) ∧ W.cell? ⟨e.b, i * 3, none⟩ = some (.bool false) ∧ W.cell? ⟨e.b, i * 3 + 1, none⟩ = some (.int .i64 e.k) ∧ W.cell? ⟨e.b, i * 3 + 2, none⟩ = some (.int .u8 0)) (first | exact HSx.out _ hkx.drew) (first | fail)
              all_goals
                go_wp2
                exact ⟨⟨i + 1, by omega, by go_num, hkx.drew⟩, by simp [intOf]; omega⟩
            · have hin' : ¬ (i : Int) < (e.n : Int) := by omega
              go_wp2
              exact ⟨⟨j + 1, by omega, by go_num, k0.trans hkx⟩, by simp [intOf]; omega⟩
        · have hjn' : ¬ (j : Int) < (s.le.length : Int) := by omega
          go_wp2
          go_ret
          exact ⟨rfl, hk⟩

end Go.Proofs.YtikdbpphbdbdnaaGreat
