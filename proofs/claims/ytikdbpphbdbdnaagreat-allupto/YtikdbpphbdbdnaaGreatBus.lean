/- The bus: a byte read, a byte written, by the part that stands there. -/
import Derived.Test.YtikdbpphbdbdnaaGreatXa
namespace Go.Proofs.YtikdbpphbdbdnaaGreat
open Go.RowKit
set_option linter.unusedVariables false

/-- The parts' first and last addresses. -/
def slotLo : Nat → Int
  | 0 => 0
  | 1 => 128
  | 2 => 192
  | 3 => 195
  | 4 => 197
  | 5 => 199
  | _ => 202
def slotHi : Nat → Int
  | 0 => 127
  | 1 => 191
  | 2 => 194
  | 3 => 196
  | 4 => 198
  | 5 => 201
  | _ => 203
def slotTy : Nat → TypeId
  | 0 => 114
  | 1 => 143
  | 2 => 116
  | 3 => 119
  | 4 => 122
  | 5 => 125
  | _ => 128
def slotVal (l : XL) : Nat → Value
  | 0 => .pointer (some ⟨l.me, 0, none⟩)
  | 1 => .agg #[.pointer (some ⟨l.bk, 0, none⟩)]
  | 2 => .pointer (some ⟨l.tm, 0, none⟩)
  | 3 => .pointer (some ⟨l.wa, 0, none⟩)
  | 4 => .pointer (some ⟨l.po, 0, none⟩)
  | 5 => .pointer (some ⟨l.up, 0, none⟩)
  | _ => .pointer (some ⟨l.re, 0, none⟩)

theorem seven {j : Nat} (hj : j < 7) : j = 0 ∨ j = 1 ∨ j = 2 ∨ j = 3 ∨ j = 4 ∨ j = 5 ∨ j = 6 := by omega

theorem XRep.slot {l : XL} {st : St} {ex : Ext} {w : World} (h : XRep l st ex w) (j : Nat) (hj : j < 7) :
    w.cell? ⟨l.bs, j * 3, none⟩ = some (.int .u8 (slotLo j)) ∧ w.cell? ⟨l.bs, j * 3 + 1, none⟩ = some (.int .u8 (slotHi j)) ∧ w.cell? ⟨l.bs, j * 3 + 2, none⟩ = some (.iface (slotTy j) (slotVal l j)) := by
  rcases seven hj with rfl | rfl | rfl | rfl | rfl | rfl | rfl
  · exact ⟨h.c_bus0, h.c_bus1, h.c_bus2⟩
  · exact ⟨h.c_bus3, h.c_bus4, h.c_bus5⟩
  · exact ⟨h.c_bus6, h.c_bus7, h.c_bus8⟩
  · exact ⟨h.c_bus9, h.c_bus10, h.c_bus11⟩
  · exact ⟨h.c_bus12, h.c_bus13, h.c_bus14⟩
  · exact ⟨h.c_bus15, h.c_bus16, h.c_bus17⟩
  · exact ⟨h.c_bus18, h.c_bus19, h.c_bus20⟩

def holdsB (lo hi a : Int) : Bool := decide (lo ≤ a) && decide (a ≤ hi)

set_option maxHeartbeats 400000 in
theorem holds_any (lo hi a : Int) (v : Value) (w : World) :
    Calls Tryz.prog 140 #[.agg #[.int .u8 lo, .int .u8 hi, v], .int .u8 a] w fun e w' => e = .returned (.bool (holdsB lo hi a)) ∧ Still w w' := by
  have HF : Hid (holdsB lo hi a = (decide (lo ≤ a) && decide (a ≤ hi))) := rfl
  go_enter Tryz.func140, Tryz.ntmps140
  by_cases h1 : lo ≤ a
  · go_wp2
    go_ret
    exact ⟨ret_bool (by rw [HF.out]; simp [h1]), (Kept.refl _ _).alloc _⟩
  · go_wp2
    go_ret
    exact ⟨ret_bool (by rw [HF.out, decide_eq_false (by omega)]; rfl), (Kept.refl _ _).alloc _⟩

set_option maxRecDepth 100000 in
set_option maxHeartbeats 1000000 in
theorem bRead_slot {l : XL} {st : St} {ex : Ext} {w : World} (hr : XRep l st ex w) (j0 : Nat) (hj0 : j0 < 7) (a r : Int) (hlo : slotLo j0 ≤ a) (hhi : a ≤ slotHi j0) (hbef : ∀ j, j < j0 → slotHi j < a) (K : FuncId) (recv : Value)
    (hm : ∀ W : World, (method 310 (slotTy j0) (slotVal l j0) "nightwatch/board.read").run Tryz.prog W = .ok (K, recv) W)
    (hent : ∀ (x : Value) (W : World), (callFunc K #[recv, x]).run Tryz.prog W = .ok (.enter K #[recv, x]) W)
    (hcall : ∀ W : World, Still w W → Calls Tryz.prog K #[recv, .int .u8 ((a - slotLo j0) % 256)] W fun e W' => e = .returned (.int .u8 r) ∧ Still W W') :
    Calls Tryz.prog 138 #[.slice (some ⟨l.bs, 0, none⟩) 7 7, .int .u8 a] w fun e w' => e = .returned (.int .u8 r) ∧ Still w w' := by
  have HC : Hid _ := hcall
  clear hcall
  go_enter Tryz.func138, Tryz.ntmps138
  go_wp2
  go_loopw [9] (fun i wx => ∃ j : Nat, j ≤ j0 ∧ i = .int .i64 j ∧ Still w wx) (fun i _ => 7 - (intOf i).toNat)
  case atStart => exact ⟨0, by omega, rfl, Kept.refl _ _⟩
  case round =>
    obtain ⟨j, hj, rfl, kx⟩ := hrel
    have hrx := hr.kept kx (fun _ _ x => x)
    obtain ⟨s0, s1, s2⟩ := hrx.slot j (by omega)
    have hj7 : (j : Int) < 7 := by omega
    have hbs := hrx.bs_q
    by_cases hjj : j = j0
    · subst hjj
      have hh : holdsB (slotLo j) (slotHi j) a = true := by simp [holdsB, hlo, hhi]
      have HH : Hid _ := hh
      clear hh
      go_wp2_with fail
      refine (holds_any _ _ _ _ _).mono ?_
      rintro e w1 ⟨rfl, k1⟩
      obtain ⟨hc, hf⟩ := kcell k1 (b := wr.heap.size) (by simp) (fun x => x)
      have d0 : w1.cell? ⟨wr.heap.size, 0, none⟩ = some (.int .u8 (slotLo j)) := by rw [hc]; simp [go_sem]
      have d2 : w1.cell? ⟨wr.heap.size, 2, none⟩ = some (.iface (slotTy j) (slotVal l j)) := by rw [hc]; simp [go_sem]
      have kk : Still w w1 := (kx.alloc _).trans k1
      rw [HH.out]
      clear hc hf k1
      go_wp2
      refine (HC.out _ kk).mono ?_
      rintro e w2 ⟨rfl, k2⟩
      have kz : Still w w2 := kk.trans k2
      go_wp2
      go_ret
      exact ⟨rfl, kz⟩
    · have hh : holdsB (slotLo j) (slotHi j) a = false := by
        have := hbef j (by omega)
        simp [holdsB]
        omega
      have HH : Hid _ := hh
      clear hh
      go_wp2_with fail
      refine (holds_any _ _ _ _ _).mono ?_
      rintro e w1 ⟨rfl, k1⟩
      have kk : Still w w1 := (kx.alloc _).trans k1
      rw [HH.out]
      clear k1
      go_wp2
      exact ⟨⟨j + 1, by omega, by go_num, kk⟩, by simp [intOf]; omega⟩

set_option maxRecDepth 100000 in
set_option maxHeartbeats 1000000 in
theorem bRead_none {l : XL} {st : St} {ex : Ext} {w : World} (hr : XRep l st ex w) (a : Int) (ha : 203 < a) :
    Calls Tryz.prog 138 #[.slice (some ⟨l.bs, 0, none⟩) 7 7, .int .u8 a] w fun e w' => e = .returned (.int .u8 0) ∧ Still w w' := by
  have hhi : ∀ j, slotHi j < a := fun j => by unfold slotHi; split <;> omega
  go_enter Tryz.func138, Tryz.ntmps138
  go_wp2
  go_loopw [9] (fun i wx => ∃ j : Nat, j ≤ 7 ∧ i = .int .i64 j ∧ Still w wx) (fun i _ => 7 - (intOf i).toNat)
  case atStart => exact ⟨0, by omega, rfl, Kept.refl _ _⟩
  case round =>
    obtain ⟨j, hj, rfl, kx⟩ := hrel
    have hrx := hr.kept kx (fun _ _ x => x)
    by_cases hj7' : j < 7
    · obtain ⟨s0, s1, s2⟩ := hrx.slot j hj7'
      have hj7 : (j : Int) < 7 := by omega
      have hbs := hrx.bs_q
      have hh : holdsB (slotLo j) (slotHi j) a = false := by
        have := hhi j
        simp [holdsB]
        omega
      have HH : Hid _ := hh
      clear hh
      go_wp2_with fail
      refine (holds_any _ _ _ _ _).mono ?_
      rintro e w1 ⟨rfl, k1⟩
      have kk : Still w w1 := (kx.alloc _).trans k1
      rw [HH.out]
      clear k1
      go_wp2
      exact ⟨⟨j + 1, by omega, by go_num, kk⟩, by simp [intOf]; omega⟩
    · have hj7 : ¬ (j : Int) < 7 := by omega
      go_wp2
      go_ret
      exact ⟨rfl, kx⟩

theorem slotHi_lt {j0 : Nat} (h : j0 < 7) (j : Nat) (hj : j < j0) : slotHi j < slotLo j0 := by
  rcases seven h with rfl | rfl | rfl | rfl | rfl | rfl | rfl
  · omega
  all_goals
    have hx : j = 0 ∨ j = 1 ∨ j = 2 ∨ j = 3 ∨ j = 4 ∨ j = 5 := by omega
    rcases hx with rfl | rfl | rfl | rfl | rfl | rfl
    all_goals first | omega | (exact of_decide_eq_true rfl)

set_option maxRecDepth 100000 in
set_option maxHeartbeats 1000000 in
theorem bRead_any {n : Nat} (hn : n < 4611686018427387904) {l : XL} {st : St} {ex : Ext} {w : World} (hr : XRep l st ex w) (hi : Inv st) (hc : Clk n st ex) (hb : st.bank = 0 ∨ st.bank = 1) (hin : ex.inp = st.inp) (a : Int) (a0 : 0 ≤ a) (a1 : a ≤ 255) :
    Calls Tryz.prog 138 #[.slice (some ⟨l.bs, 0, none⟩) 7 7, .int .u8 a] w fun e w' => e = .returned (.int .u8 (st.read a)) ∧ Still w w' := by
  have kr : ∀ W, Still w W → XRep l st ex W := fun W hW => hr.kept hW (fun _ _ x => x)
  have hsl : ∀ (j0 : Nat) (hj0 : j0 < 7) (b : Int), b = a - slotLo j0 → 0 ≤ b → b ≤ slotHi j0 - slotLo j0 → ∀ (r : Int), r = st.read a → ∀ (K : FuncId) (recv : Value),
    (∀ W : World, (method 310 (slotTy j0) (slotVal l j0) "nightwatch/board.read").run Tryz.prog W = .ok (K, recv) W) →
    (∀ (x : Value) (W : World), (callFunc K #[recv, x]).run Tryz.prog W = .ok (.enter K #[recv, x]) W) →
    (∀ W : World, Still w W → Calls Tryz.prog K #[recv, .int .u8 b] W fun e W' => e = .returned (.int .u8 r) ∧ Still W W') →
    Calls Tryz.prog 138 #[.slice (some ⟨l.bs, 0, none⟩) 7 7, .int .u8 a] w fun e w' => e = .returned (.int .u8 (st.read a)) ∧ Still w w' := fun j0 hj0 b hbb h0 h1 r hr0 K recv hm hent hcall => by
    have hs0 : 0 ≤ slotLo j0 ∧ slotHi j0 ≤ 255 := by rcases seven hj0 with rfl | rfl | rfl | rfl | rfl | rfl | rfl <;> decide
    have e : (a - slotLo j0) % 256 = b := by rw [hbb]; omega
    rw [← hr0]
    exact bRead_slot hr j0 hj0 a r (by omega) (by omega) (fun j hj => by have := slotHi_lt hj0 j hj; omega) K recv hm hent (fun W hW => by rw [e]; exact hcall W hW)
  by_cases c0 : a < 128
  · exact hsl 0 (by omega) a (by show a = a - 0; omega) a0 (by show a ≤ 127 - 0; omega) (st.mem a.toNat) (by unfold St.read; rw [if_pos c0]) 136 _ (fun _ => by kernel_rfl) (fun _ _ => by kernel_rfl) (fun W hW => by
      have h := mread_any (kr W hW) a.toNat (by omega)
      rw [Int.toNat_of_nonneg a0] at h
      exact h)
  by_cases c1 : a < 192
  · rcases hb with hb | hb
    · exact hsl 1 (by omega) (a - 128) rfl (by omega) (by show a - 128 ≤ 191 - 128; omega) (st.b0 (a - 128).toNat) (by unfold St.read; rw [if_neg c0, if_pos c1]; unfold St.inBank; rw [if_pos hb]) 141 _ (fun _ => by kernel_rfl) (fun _ _ => by kernel_rfl) (fun W hW => by
        have h := gread_0 (kr W hW) hb (a - 128).toNat (by omega)
        rw [Int.toNat_of_nonneg (by omega)] at h
        exact h)
    · exact hsl 1 (by omega) (a - 128) rfl (by omega) (by show a - 128 ≤ 191 - 128; omega) (st.b1 (a - 128).toNat) (by unfold St.read; rw [if_neg c0, if_pos c1]; unfold St.inBank; rw [if_neg (by omega)]) 141 _ (fun _ => by kernel_rfl) (fun _ _ => by kernel_rfl) (fun W hW => by
        have h := gread_1 (kr W hW) hb (a - 128).toNat (by omega)
        rw [Int.toNat_of_nonneg (by omega)] at h
        exact h)
  by_cases c2 : 203 < a
  · have e : st.read a = 0 := by unfold St.read; simp [show ¬ a < 128 by omega, show ¬ a < 192 by omega, show ¬ a = 192 by omega, show ¬ a = 193 by omega, show ¬ a = 194 by omega, show ¬ a = 195 by omega, show ¬ a = 196 by omega, show ¬ a = 197 by omega, show ¬ a = 198 by omega, show ¬ a = 199 by omega, show ¬ a = 200 by omega, show ¬ a = 201 by omega, show ¬ a = 202 by omega, show ¬ a = 203 by omega]
    rw [e]
    exact bRead_none hr a c2
  have hh : a = 192 ∨ a = 193 ∨ a = 194 ∨ a = 195 ∨ a = 196 ∨ a = 197 ∨ a = 198 ∨ a = 199 ∨ a = 200 ∨ a = 201 ∨ a = 202 ∨ a = 203 := by omega
  clear c0 c1 c2
  rcases hh with rfl | rfl | rfl | rfl | rfl | rfl | rfl | rfl | rfl | rfl | rfl | rfl
  · exact hsl 2 (by omega) 0 rfl (by omega) (by decide) st.period rfl 148 _ (fun _ => by kernel_rfl) (fun _ _ => by kernel_rfl) (fun W hW => tread_0 (kr W hW))
  · exact hsl 2 (by omega) 1 rfl (by omega) (by decide) st.count rfl 148 _ (fun _ => by kernel_rfl) (fun _ _ => by kernel_rfl) (fun W hW => tread_1 hn (kr W hW) hi hc)
  · exact hsl 2 (by omega) 2 rfl (by omega) (by decide) (flagN st.flag) rfl 148 _ (fun _ => by kernel_rfl) (fun _ _ => by kernel_rfl) (fun W hW => tread_2 (kr W hW))
  · exact hsl 3 (by omega) 0 rfl (by omega) (by decide) st.age rfl 150 _ (fun _ => by kernel_rfl) (fun _ _ => by kernel_rfl) (fun W hW => wread_0 hn (kr W hW) hi hc)
  · exact hsl 3 (by omega) 1 rfl (by omega) (by decide) st.window rfl 150 _ (fun _ => by kernel_rfl) (fun _ _ => by kernel_rfl) (fun W hW => wread_1 (kr W hW))
  · exact hsl 4 (by omega) 0 rfl (by omega) (by decide) st.out rfl 155 _ (fun _ => by kernel_rfl) (fun _ _ => by kernel_rfl) (fun W hW => pread_0 (kr W hW))
  · exact hsl 4 (by omega) 1 rfl (by omega) (by decide) st.inp rfl 155 _ (fun _ => by kernel_rfl) (fun _ _ => by kernel_rfl) (fun W hW => by rw [← hin]; exact pread_1 (kr W hW))
  · exact hsl 5 (by omega) 0 rfl (by omega) (by decide) (flagN st.opn) rfl 157 _ (fun _ => by kernel_rfl) (fun _ _ => by kernel_rfl) (fun W hW => uread_0 (kr W hW))
  · exact hsl 5 (by omega) 1 rfl (by omega) (by decide) st.place rfl 157 _ (fun _ => by kernel_rfl) (fun _ _ => by kernel_rfl) (fun W hW => uread_1 (kr W hW))
  · have hp := hi.place
    rcases hb with hb | hb
    · exact hsl 5 (by omega) 2 rfl (by omega) (by decide) (st.b1 st.place.toNat) (by show _ = st.inBank (1 - st.bank) _; unfold St.inBank; rw [if_neg (by omega)]) 157 _ (fun _ => by kernel_rfl) (fun _ _ => by kernel_rfl) (fun W hW => uread_20 (kr W hW) hb st.place.toNat (by omega) (Int.toNat_of_nonneg hp.1).symm)
    · exact hsl 5 (by omega) 2 rfl (by omega) (by decide) (st.b0 st.place.toNat) (by show _ = st.inBank (1 - st.bank) _; unfold St.inBank; rw [if_pos (by omega)]) 157 _ (fun _ => by kernel_rfl) (fun _ _ => by kernel_rfl) (fun W hW => uread_21 (kr W hW) hb st.place.toNat (by omega) (Int.toNat_of_nonneg hp.1).symm)
  · exact hsl 6 (by omega) 0 rfl (by omega) (by decide) st.cause rfl 137 _ (fun _ => by kernel_rfl) (fun _ _ => by kernel_rfl) (fun W hW => cread_0 (kr W hW) hi)
  · exact hsl 6 (by omega) 1 rfl (by omega) (by decide) st.bank rfl 137 _ (fun _ => by kernel_rfl) (fun _ _ => by kernel_rfl) (fun W hW => cread_1 (kr W hW) (by omega) (by omega))

end Go.Proofs.YtikdbpphbdbdnaaGreat
