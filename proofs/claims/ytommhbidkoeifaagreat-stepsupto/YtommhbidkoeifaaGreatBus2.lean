/- The bus: a byte is written. -/
import Derived.Test.YtommhbidkoeifaaGreatParts2
namespace Go.Proofs.YtommhbidkoeifaaGreat
open Go.RowKit
set_option linter.unusedVariables false

theorem Grew.bs {l l' : XL} {w : World} (h : Grew l l' w) : l'.bs = l.bs := by obtain ⟨q, cap, rfl, _⟩ := h; rfl

theorem Went.still {l : XL} {st : St} {ex : Ext} {w w1 w2 : World} (h : Went l st ex w w1) (k : Still w1 w2) : Went l st ex w w2 := by
  obtain ⟨l', g, r, kk⟩ := h
  exact ⟨l', g, r.kept k (fun _ _ x => x), kk.trans (k.wide (fun _ x => x.elim))⟩

theorem Went.alloc {l : XL} {st : St} {ex : Ext} {w w1 : World} (h : Went l st ex w w1) (o : Obj) : Went l st ex w (w1.alloc o) := h.still ((Kept.refl _ _).alloc o)

theorem Went.slot {l : XL} {st : St} {ex : Ext} {w w1 : World} (h : Went l st ex w w1) (j : Nat) (hj : j < 7) :
    ∃ v, w1.cell? ⟨l.bs, j * 3, none⟩ = some (.int .u8 (slotLo j)) ∧ w1.cell? ⟨l.bs, j * 3 + 1, none⟩ = some (.int .u8 (slotHi j)) ∧ w1.cell? ⟨l.bs, j * 3 + 2, none⟩ = some (.iface (slotTy j) v) ∧ l.bs < w1.heap.size := by
  obtain ⟨l', g, r, kk⟩ := h
  obtain ⟨a, b, c⟩ := r.slot j hj
  have d := r.bs_q
  rw [g.bs] at a b c d
  exact ⟨_, a, b, c, d⟩

theorem slotLo_gt {j0 : Nat} (h : j0 < 7) (j : Nat) (hj : j0 < j) (h7 : j < 7) : slotHi j0 < slotLo j := slotHi_lt h7 j0 hj

set_option maxRecDepth 100000 in
set_option maxHeartbeats 1000000 in
theorem bWrite_slot {l : XL} {st st' : St} {ex ex' : Ext} {w : World} (hr : XRep l st ex w) (j0 : Nat) (hj0 : j0 < 7) (a v : Int) (hlo : slotLo j0 ≤ a) (hhi : a ≤ slotHi j0) (K : FuncId) (recv : Value)
    (hm : ∀ W : World, (method 310 (slotTy j0) (slotVal l j0) "nightwatch/board.write").run Tryz.prog W = .ok (K, recv) W)
    (hent : ∀ (x y : Value) (W : World), (callFunc K #[recv, x, y]).run Tryz.prog W = .ok (.enter K #[recv, x, y]) W)
    (hcall : ∀ W : World, Still w W → Calls Tryz.prog K #[recv, .int .u8 ((a - slotLo j0) % 256), .int .u8 v] W fun e W' => e = .returned (.tuple #[]) ∧ Went l st' ex' W W') :
    Calls Tryz.prog 133 #[.slice (some ⟨l.bs, 0, none⟩) 7 7, .int .u8 a, .int .u8 v] w fun e w' => e = .returned (.tuple #[]) ∧ Went l st' ex' w w' := by
  have HC : Hid _ := hcall
  clear hcall
  go_enter Tryz.func133, Tryz.ntmps133
  go_wp2
  go_loopw [10] (fun i wx => (∃ j : Nat, j ≤ j0 ∧ i = .int .i64 j ∧ Still w wx) ∨ (∃ j : Nat, j0 < j ∧ j ≤ 7 ∧ i = .int .i64 j ∧ Went l st' ex' w wx)) (fun i _ => 7 - (intOf i).toNat)
  case atStart => exact Or.inl ⟨0, by omega, rfl, Kept.refl _ _⟩
  case round =>
    rcases hrel with ⟨j, hj, rfl, kx⟩ | ⟨j, hj, hj8, rfl, went⟩
    · have hrx := hr.kept kx (fun _ _ x => x)
      obtain ⟨s0, s1, s2⟩ := hrx.slot j (by omega)
      have hj7 : (j : Int) < 7 := by omega
      have hbs := hrx.bs_q
      by_cases hjj : j = j0
      · subst hjj
        have hh : holdsB (slotLo j) (slotHi j) a = true := by simp [holdsB, hlo, hhi]
        have HH : Hid _ := hh
        clear hh
        go_wp2_with fail
        refine (holds_any _ _ _ _ _).mono ?_
        rintro e w1 ⟨rfl, k1⟩
        obtain ⟨hc, hf⟩ := kcell k1 (b := wr.heap.size) (by simp) (fun x => x)
        have d0 : w1.cell? ⟨wr.heap.size, 0, none⟩ = some (.int .u8 (slotLo j)) := by rw [hc]; simp [go_sem]
        have d2 : w1.cell? ⟨wr.heap.size, 2, none⟩ = some (.iface (slotTy j) (slotVal l j)) := by rw [hc]; simp [go_sem]
        have kk : Still w w1 := (kx.alloc _).trans k1
        rw [HH.out]
        clear hc hf k1
        go_wp2
        refine (HC.out _ kk).mono ?_
        rintro e w2 ⟨rfl, went⟩
        have went2 := Went.before (kk.wide (fun _ x => x.elim)) went
        go_wp2
        exact ⟨Or.inr ⟨j + 1, by omega, by omega, by go_num, went2⟩, by simp [intOf]; omega⟩
      · have hh : holdsB (slotLo j) (slotHi j) a = false := by
          have := slotHi_lt hj0 j (by omega)
          simp [holdsB]
          omega
        have HH : Hid _ := hh
        clear hh
        go_wp2_with fail
        refine (holds_any _ _ _ _ _).mono ?_
        rintro e w1 ⟨rfl, k1⟩
        have kk : Still w w1 := (kx.alloc _).trans k1
        rw [HH.out]
        clear k1
        go_wp2
        exact ⟨Or.inl ⟨j + 1, by omega, by go_num, kk⟩, by simp [intOf]; omega⟩
    · by_cases hj7' : j < 7
      · obtain ⟨vv, s0, s1, s2, hbs⟩ := went.slot j hj7'
        have hj7 : (j : Int) < 7 := by omega
        have hh : holdsB (slotLo j) (slotHi j) a = false := by
          have := slotLo_gt hj0 j hj hj7'
          simp [holdsB]
          omega
        have HH : Hid _ := hh
        clear hh
        have wa := fun o => went.alloc o
        go_wp2_with fail
        refine (holds_any _ _ _ _ _).mono ?_
        rintro e w1 ⟨rfl, k1⟩
        have w2 := (wa _).still k1
        rw [HH.out]
        clear k1
        go_wp2
        exact ⟨Or.inr ⟨j + 1, by omega, by omega, by go_num, w2⟩, by simp [intOf]; omega⟩
      · have hj7 : ¬ (j : Int) < 7 := by omega
        go_wp2
        (first | go_end0 | refine bodyPost_ret (results_none rfl _ _ _) rfl ?_)
        exact ⟨rfl, went⟩

set_option maxRecDepth 100000 in
set_option maxHeartbeats 1000000 in
theorem bWrite_none {l : XL} {st : St} {ex : Ext} {w : World} (hr : XRep l st ex w) (a v : Int) (ha : 203 < a) :
    Calls Tryz.prog 133 #[.slice (some ⟨l.bs, 0, none⟩) 7 7, .int .u8 a, .int .u8 v] w fun e w' => e = .returned (.tuple #[]) ∧ Went l st ex w w' := by
  have hhi : ∀ j, slotHi j < a := fun j => by unfold slotHi; split <;> omega
  go_enter Tryz.func133, Tryz.ntmps133
  go_wp2
  go_loopw [10] (fun i wx => ∃ j : Nat, j ≤ 7 ∧ i = .int .i64 j ∧ Still w wx) (fun i _ => 7 - (intOf i).toNat)
  case atStart => exact ⟨0, by omega, rfl, Kept.refl _ _⟩
  case round =>
    obtain ⟨j, hj, rfl, kx⟩ := hrel
    have hrx := hr.kept kx (fun _ _ x => x)
    by_cases hj7' : j < 7
    · obtain ⟨s0, s1, s2⟩ := hrx.slot j hj7'
      have hj7 : (j : Int) < 7 := by omega
      have hbs := hrx.bs_q
      have hh : holdsB (slotLo j) (slotHi j) a = false := by
        have := hhi j
        simp [holdsB]
        omega
      have HH : Hid _ := hh
      clear hh
      go_wp2_with fail
      refine (holds_any _ _ _ _ _).mono ?_
      rintro e w1 ⟨rfl, k1⟩
      have kk : Still w w1 := (kx.alloc _).trans k1
      rw [HH.out]
      clear k1
      go_wp2
      exact ⟨⟨j + 1, by omega, by go_num, kk⟩, by simp [intOf]; omega⟩
    · have hj7 : ¬ (j : Int) < 7 := by omega
      go_wp2
      (first | go_end0 | refine bodyPost_ret (results_none rfl _ _ _) rfl ?_)
      exact ⟨rfl, Went.mk hrx (kx.wide (fun _ x => x.elim))⟩

/-- What a byte that is written does, in memory: to the state, but for count, age and resets. -/
def wrS (st : St) (a v : Int) : St :=
  if a < 128 then { st with mem := upd st.mem a.toNat v }
  else if a = 192 then { st with period := v, flag := false }
  else if a = 194 then { st with flag := false }
  else if a = 195 then { st with key := (v == 150) }
  else if a = 196 then winS st v
  else if a = 197 then { st with out := v }
  else if 199 ≤ a then st.updates a v
  else st

/-- And to what stands beside. -/
def wrX (st : St) (ex : Ext) (a v : Int) : Ext := if a = 192 then startX ex v else if a = 195 then keyX st ex v else ex

set_option maxRecDepth 100000 in
set_option maxHeartbeats 1000000 in
theorem bWrite_any {n : Nat} (hn : n < 4611686018427387904) {l : XL} {st : St} {ex : Ext} {w : World} (hr : XRep l st ex w) (hi : Inv st) (hc : Clk n st ex) (hd : DsOk ex.due) (hb : st.bank = 0 ∨ st.bank = 1) (a v : Int) (a0 : 0 ≤ a) (a1 : a ≤ 255) (v0 : 0 ≤ v) (v1 : v ≤ 255) :
    Calls Tryz.prog 133 #[.slice (some ⟨l.bs, 0, none⟩) 7 7, .int .u8 a, .int .u8 v] w fun e w' => e = .returned (.tuple #[]) ∧ Went l (wrS st a v) (wrX st ex a v) w w' := by
  have n0 := hc.n0
  have n1 : ex.now < 4611686018427387904 := by have := hc.n1; omega
  have kr : ∀ W, Still w W → XRep l st ex W := fun W hW => hr.kept hW (fun _ _ x => x)
  have hsl : ∀ (j0 : Nat) (hj0 : j0 < 7) (b : Int), b = a - slotLo j0 → 0 ≤ b → b ≤ slotHi j0 - slotLo j0 → ∀ (K : FuncId) (recv : Value),
    (∀ W : World, (method 310 (slotTy j0) (slotVal l j0) "nightwatch/board.write").run Tryz.prog W = .ok (K, recv) W) →
    (∀ (x y : Value) (W : World), (callFunc K #[recv, x, y]).run Tryz.prog W = .ok (.enter K #[recv, x, y]) W) →
    (∀ W : World, Still w W → Calls Tryz.prog K #[recv, .int .u8 b, .int .u8 v] W fun e W' => e = .returned (.tuple #[]) ∧ Went l (wrS st a v) (wrX st ex a v) W W') →
    Calls Tryz.prog 133 #[.slice (some ⟨l.bs, 0, none⟩) 7 7, .int .u8 a, .int .u8 v] w fun e w' => e = .returned (.tuple #[]) ∧ Went l (wrS st a v) (wrX st ex a v) w w' := fun j0 hj0 b hbb h0 h1 K recv hm hent hcall => by
    have hs0 : 0 ≤ slotLo j0 ∧ slotHi j0 ≤ 255 := by rcases seven hj0 with rfl | rfl | rfl | rfl | rfl | rfl | rfl <;> decide
    have e : (a - slotLo j0) % 256 = b := by rw [hbb]; omega
    exact bWrite_slot hr j0 hj0 a v (by omega) (by omega) K recv hm hent (fun W hW => by rw [e]; exact hcall W hW)
  have hx : ¬ a = 192 → ¬ a = 195 → wrX st ex a v = ex := fun h1 h2 => by unfold wrX; rw [if_neg h1, if_neg h2]
  by_cases c0 : a < 128
  · exact hsl 0 (by omega) a (by show a = a - 0; omega) a0 (by show a ≤ 127 - 0; omega) 136 _ (fun _ => by kernel_rfl) (fun _ _ _ => by kernel_rfl) (fun W hW => by
      have h := mwrite_any (kr W hW) a.toNat (by omega) v
      rw [Int.toNat_of_nonneg a0] at h
      exact h.mono fun e w' ⟨h1, h2⟩ => ⟨h1, h2.as (by unfold wrS; rw [if_pos c0]) (hx (by omega) (by omega)).symm⟩)
  by_cases c1 : a < 192
  · exact hsl 1 (by omega) (a - 128) rfl (by omega) (by show a - 128 ≤ 191 - 128; omega) 138 _ (fun _ => by kernel_rfl) (fun _ _ _ => by kernel_rfl) (fun W hW =>
      (gwrite_any (kr W hW) (a - 128) v).mono fun e w' ⟨h1, h2⟩ => ⟨h1, h2.as (by unfold wrS; rw [if_neg c0, if_neg (by omega), if_neg (by omega), if_neg (by omega), if_neg (by omega), if_neg (by omega), if_neg (by omega)]) (hx (by omega) (by omega)).symm⟩)
  by_cases c2 : 203 < a
  · refine (bWrite_none hr a v c2).mono fun e w' ⟨h1, h2⟩ => ⟨h1, h2.as ?_ (hx (by omega) (by omega)).symm⟩
    unfold wrS St.updates
    rw [if_neg c0, if_neg (by omega), if_neg (by omega), if_neg (by omega), if_neg (by omega), if_neg (by omega), if_pos (by omega), if_neg (by omega), if_neg (by omega), if_neg (by omega), if_neg (by omega)]
  have hh : a = 192 ∨ a = 193 ∨ a = 194 ∨ a = 195 ∨ a = 196 ∨ a = 197 ∨ a = 198 ∨ a = 199 ∨ a = 200 ∨ a = 201 ∨ a = 202 ∨ a = 203 := by omega
  clear c0 c1 c2
  rcases hh with rfl | rfl | rfl | rfl | rfl | rfl | rfl | rfl | rfl | rfl | rfl | rfl
  · exact hsl 2 (by omega) 0 rfl (by omega) (by decide) 144 _ (fun _ => by kernel_rfl) (fun _ _ _ => by kernel_rfl) (fun W hW => twrite_0 (kr W hW) hd n0 n1 v v0 v1)
  · exact hsl 2 (by omega) 1 rfl (by omega) (by decide) 144 _ (fun _ => by kernel_rfl) (fun _ _ _ => by kernel_rfl) (fun W hW => twrite_1 (kr W hW) v)
  · exact hsl 2 (by omega) 2 rfl (by omega) (by decide) 144 _ (fun _ => by kernel_rfl) (fun _ _ _ => by kernel_rfl) (fun W hW => twrite_2 (kr W hW) v)
  · exact hsl 3 (by omega) 0 rfl (by omega) (by decide) 146 _ (fun _ => by kernel_rfl) (fun _ _ _ => by kernel_rfl) (fun W hW => wwrite_0 hn (kr W hW) hi hc hd v)
  · exact hsl 3 (by omega) 1 rfl (by omega) (by decide) 146 _ (fun _ => by kernel_rfl) (fun _ _ _ => by kernel_rfl) (fun W hW => wwrite_1 (kr W hW) v)
  · exact hsl 4 (by omega) 0 rfl (by omega) (by decide) 151 _ (fun _ => by kernel_rfl) (fun _ _ _ => by kernel_rfl) (fun W hW => pwrite_0 (kr W hW) v)
  · exact hsl 4 (by omega) 1 rfl (by omega) (by decide) 151 _ (fun _ => by kernel_rfl) (fun _ _ _ => by kernel_rfl) (fun W hW => pwrite_1 (kr W hW) v)
  · exact hsl 5 (by omega) 0 rfl (by omega) (by decide) 153 _ (fun _ => by kernel_rfl) (fun _ _ _ => by kernel_rfl) (fun W hW => uwrite_0 (kr W hW) hb v)
  · exact hsl 5 (by omega) 1 rfl (by omega) (by decide) 153 _ (fun _ => by kernel_rfl) (fun _ _ _ => by kernel_rfl) (fun W hW => uwrite_1 (kr W hW) v v0 v1)
  · exact hsl 5 (by omega) 2 rfl (by omega) (by decide) 153 _ (fun _ => by kernel_rfl) (fun _ _ _ => by kernel_rfl) (fun W hW => uwrite_2 (kr W hW) hi hb v)
  · exact hsl 6 (by omega) 0 rfl (by omega) (by decide) 158 _ (fun _ => by kernel_rfl) (fun _ _ _ => by kernel_rfl) (fun W hW => cwrite_0 (kr W hW) v)
  · refine hsl 6 (by omega) 1 rfl (by omega) (by decide) 158 (.pointer (some ⟨l.re, 0, none⟩)) (fun _ => by kernel_rfl) (fun _ _ _ => by kernel_rfl) (fun W hW => ?_)
    by_cases hv : v = 13
    · subst hv
      exact cwrite_13 (kr W hW) hb
    · refine (cwrite_no (kr W hW) v (by simpa using hv)).mono fun e w' ⟨h1, h2⟩ => ⟨h1, h2.as ?_ rfl⟩
      show st = st.updates 203 v
      unfold St.updates
      rw [if_neg (by omega), if_neg (by omega), if_neg (by omega), if_pos rfl, if_neg hv]

end Go.Proofs.YtommhbidkoeifaaGreat
