/- Of several texts, one behind the other. -/
import Derived.Test.YtikdbpphbdbdnaaGreatXa
/- The program's processor: its registers and what an instruction does. -/
namespace Go.Proofs.YtikdbpphbdbdnaaGreat
open Go.RowKit
set_option linter.unusedVariables false

/-- What cycles an instruction takes: 0: none; 1: Fetch; 2: Operand too; 3: and Read; 4: and Write. -/
def shapeN (op : Int) : Int :=
  if op = 0 ∨ op = 11 ∨ op = 12 ∨ op = 13 ∨ op = 14 ∨ op = 24 then 1
  else if op = 1 ∨ (16 ≤ op ∧ op ≤ 20) then 2
  else if op = 3 ∨ op = 10 then 4
  else if 2 ≤ op ∧ op ≤ 9 then 3
  else 0

set_option maxRecDepth 100000 in
set_option maxHeartbeats 400000 in
theorem zshape_any (op : Int) (w : World) (h0 : 0 ≤ op) :
    Calls Tryz.prog 101 #[.int .u8 op] w fun e w' => e = .returned (.int .i64 (shapeN op)) ∧ w' = w := by
  by_cases hbig : 24 < op
  · have HF : Hid (shapeN op = 0) := by
      unfold shapeN Hid
      rw [if_neg (by omega), if_neg (by omega), if_neg (by omega), if_neg (by omega)]
    have b : ∀ k : Int, k ≤ 24 → (op == k) = false := fun k hk => beq_eq_false_iff_ne.2 (by omega)
    have b0 := b 0 (by omega)
    have b1 := b 1 (by omega)
    have b2 := b 2 (by omega)
    have b3 := b 3 (by omega)
    have b4 := b 4 (by omega)
    have b5 := b 5 (by omega)
    have b6 := b 6 (by omega)
    have b7 := b 7 (by omega)
    have b8 := b 8 (by omega)
    have b9 := b 9 (by omega)
    have b10 := b 10 (by omega)
    have b11 := b 11 (by omega)
    have b12 := b 12 (by omega)
    have b13 := b 13 (by omega)
    have b14 := b 14 (by omega)
    have b16 := b 16 (by omega)
    have b17 := b 17 (by omega)
    have b18 := b 18 (by omega)
    have b19 := b 19 (by omega)
    have b20 := b 20 (by omega)
    have b24 := b 24 (by omega)
    clear b
    go_enter Tryz.func101, Tryz.ntmps101
    go_wp2
    go_ret
    exact ⟨ret_int HF.out.symm, rfl⟩
  · have h : op = 0 ∨ op = 1 ∨ op = 2 ∨ op = 3 ∨ op = 4 ∨ op = 5 ∨ op = 6 ∨ op = 7 ∨ op = 8 ∨ op = 9 ∨ op = 10 ∨ op = 11 ∨ op = 12 ∨ op = 13 ∨ op = 14 ∨ op = 15 ∨ op = 16 ∨ op = 17 ∨ op = 18 ∨ op = 19 ∨ op = 20 ∨ op = 21 ∨ op = 22 ∨ op = 23 ∨ op = 24 := by omega
    rcases h with rfl | rfl | rfl | rfl | rfl | rfl | rfl | rfl | rfl | rfl | rfl | rfl | rfl | rfl | rfl | rfl | rfl | rfl | rfl | rfl | rfl | rfl | rfl | rfl | rfl
    all_goals
      go_enter Tryz.func101, Tryz.ntmps101
      go_wp2
      go_ret
      exact ⟨rfl, rfl⟩

/-- Is X added? -/
def indexedB (op : Int) : Bool := op == 9 || op == 10

set_option maxHeartbeats 400000 in
theorem zindexed_any (op : Int) (w : World) :
    Calls Tryz.prog 103 #[.int .u8 op] w fun e w' => e = .returned (.bool (indexedB op)) ∧ w' = w := by
  have HF : Hid (indexedB op = (op == 9 || op == 10)) := rfl
  go_enter Tryz.func103, Tryz.ntmps103
  cases h9 : (op == 9)
  · go_wp2
    go_ret
    refine ⟨ret_bool ?_, rfl⟩
    rw [HF.out, h9]; rfl
  · go_wp2
    go_ret
    refine ⟨ret_bool ?_, rfl⟩
    rw [HF.out, h9]; rfl

set_option maxHeartbeats 400000 in
theorem zsetA_any {l : XL} {st : St} {ex : Ext} {w : World} (hr : XRep l st ex w) (v : Int) (h0 : 0 ≤ v) (h1 : v ≤ 255) :
    Calls Tryz.prog 110 #[.pointer (some ⟨l.g, 0, none⟩), .int .u8 v] w fun e w' => e = .returned (.tuple #[]) ∧ XRep l (st.setA v) ex w' ∧ Kept l.own w w' := by
  have HF : Hid (st.setA v = { st with a := v, zero := (v == 0) }) := by simp [Hid, St.setA, Int.emod_eq_of_lt h0 (show v < 256 by omega)]
  have c1 := hr.c_a
  have f1 := hr.f_a
  have c2 := hr.c_zero
  have f2 := hr.f_zero
  go_enter Tryz.func110, Tryz.ntmps110
  go_wp2
  (first | go_end0 | refine bodyPost_ret (results_none rfl _ _ _) rfl ?_)
  exact ⟨rfl, ((hr.set_a _).set_zero _).as HF.out.symm rfl, ((Kept.refl _ _).g _ _).g _ _⟩

set_option maxHeartbeats 400000 in
theorem zsetX_any {l : XL} {st : St} {ex : Ext} {w : World} (hr : XRep l st ex w) (v : Int) (h0 : 0 ≤ v) (h1 : v ≤ 255) :
    Calls Tryz.prog 112 #[.pointer (some ⟨l.g, 0, none⟩), .int .u8 v] w fun e w' => e = .returned (.tuple #[]) ∧ XRep l (st.setX v) ex w' ∧ Kept l.own w w' := by
  have HF : Hid (st.setX v = { st with x := v, zero := (v == 0) }) := by simp [Hid, St.setX, Int.emod_eq_of_lt h0 (show v < 256 by omega)]
  have c1 := hr.c_x
  have f1 := hr.f_x
  have c2 := hr.c_zero
  have f2 := hr.f_zero
  go_enter Tryz.func112, Tryz.ntmps112
  go_wp2
  (first | go_end0 | refine bodyPost_ret (results_none rfl _ _ _) rfl ?_)
  exact ⟨rfl, ((hr.set_x _).set_zero _).as HF.out.symm rfl, ((Kept.refl _ _).g _ _).g _ _⟩

end Go.Proofs.YtikdbpphbdbdnaaGreat

/- The program's processor: the instructions without operand, the jumps, what is done with a byte that was read. -/
namespace Go.Proofs.YtikdbpphbdbdnaaGreat
open Go.RowKit
set_option linter.unusedVariables false

theorem u8_and (a b : Int) (h1 : 0 ≤ a) (h2 : a ≤ 255) (h3 : 0 ≤ b) (h4 : b ≤ 255) : bits .and .u8 a b = andN a b := by
  obtain ⟨A, rfl⟩ := Int.eq_ofNat_of_zero_le h1
  obtain ⟨B, rfl⟩ := Int.eq_ofNat_of_zero_le h3
  have ha : (BitVec.ofInt 8 (A : Int)).toNat = A := by rw [BitVec.ofInt_natCast, BitVec.toNat_ofNat]; exact Nat.mod_eq_of_lt (by omega)
  have hb : (BitVec.ofInt 8 (B : Int)).toNat = B := by rw [BitVec.ofInt_natCast, BitVec.toNat_ofNat]; exact Nat.mod_eq_of_lt (by omega)
  have hx := (andN_bounds A B h1 h2 h3 h4)
  unfold andN at hx ⊢
  rw [Int.toNat_natCast, Int.toNat_natCast] at hx ⊢
  show IntKind.u8.wrap ((BitVec.ofInt 8 (A : Int) &&& BitVec.ofInt 8 (B : Int)).toNat : Int) = _
  rw [BitVec.toNat_and, ha, hb]
  rw [IntKind.wrap_u8]
  omega

theorem u8_or (a b : Int) (h1 : 0 ≤ a) (h2 : a ≤ 255) (h3 : 0 ≤ b) (h4 : b ≤ 255) : bits .or .u8 a b = orN a b := by
  obtain ⟨A, rfl⟩ := Int.eq_ofNat_of_zero_le h1
  obtain ⟨B, rfl⟩ := Int.eq_ofNat_of_zero_le h3
  have ha : (BitVec.ofInt 8 (A : Int)).toNat = A := by rw [BitVec.ofInt_natCast, BitVec.toNat_ofNat]; exact Nat.mod_eq_of_lt (by omega)
  have hb : (BitVec.ofInt 8 (B : Int)).toNat = B := by rw [BitVec.ofInt_natCast, BitVec.toNat_ofNat]; exact Nat.mod_eq_of_lt (by omega)
  have hx := (orN_bounds A B h1 h2 h3 h4)
  unfold orN at hx ⊢
  rw [Int.toNat_natCast, Int.toNat_natCast] at hx ⊢
  show IntKind.u8.wrap ((BitVec.ofInt 8 (A : Int) ||| BitVec.ofInt 8 (B : Int)).toNat : Int) = _
  rw [BitVec.toNat_or, ha, hb]
  rw [IntKind.wrap_u8]
  omega

theorem u8_xor (a b : Int) (h1 : 0 ≤ a) (h2 : a ≤ 255) (h3 : 0 ≤ b) (h4 : b ≤ 255) : bits .xor .u8 a b = xorN a b := by
  obtain ⟨A, rfl⟩ := Int.eq_ofNat_of_zero_le h1
  obtain ⟨B, rfl⟩ := Int.eq_ofNat_of_zero_le h3
  have ha : (BitVec.ofInt 8 (A : Int)).toNat = A := by rw [BitVec.ofInt_natCast, BitVec.toNat_ofNat]; exact Nat.mod_eq_of_lt (by omega)
  have hb : (BitVec.ofInt 8 (B : Int)).toNat = B := by rw [BitVec.ofInt_natCast, BitVec.toNat_ofNat]; exact Nat.mod_eq_of_lt (by omega)
  have hx := (xorN_bounds A B h1 h2 h3 h4)
  unfold xorN at hx ⊢
  rw [Int.toNat_natCast, Int.toNat_natCast] at hx ⊢
  show IntKind.u8.wrap ((BitVec.ofInt 8 (A : Int) ^^^ BitVec.ofInt 8 (B : Int)).toNat : Int) = _
  rw [BitVec.toNat_xor, ha, hb]
  rw [IntKind.wrap_u8]
  omega

set_option maxRecDepth 100000 in
set_option maxHeartbeats 400000 in
theorem zsingle_11 {l : XL} {st : St} {ex : Ext} {w : World} (hr : XRep l st ex w) (hi : Inv st) (ho : ex.op = 11) :
    Calls Tryz.prog 105 #[.pointer (some ⟨l.g, 0, none⟩)] w fun e w' => e = .returned (.tuple #[]) ∧ XRep l (st.alone 11) ex w' ∧ Kept l.own w w' := by
  have HF : Hid (st.alone 11 = st.setX st.a) := rfl
  have c1 := hr.c_op
  rw [ho] at c1
  clear ho
  have c2 := hr.c_a
  obtain ⟨v0, v1⟩ := hi.a
  go_enter Tryz.func105, Tryz.ntmps105
  go_wp2_with fail
  refine (zsetX_any hr _ v0 v1).mono ?_
  rintro e w1 ⟨rfl, hr1, k1⟩
  go_wp2
  (first | go_end0 | refine bodyPost_ret (results_none rfl _ _ _) rfl ?_)
  exact ⟨rfl, hr1.as HF.out.symm rfl, k1⟩

set_option maxRecDepth 100000 in
set_option maxHeartbeats 400000 in
theorem zsingle_12 {l : XL} {st : St} {ex : Ext} {w : World} (hr : XRep l st ex w) (hi : Inv st) (ho : ex.op = 12) :
    Calls Tryz.prog 105 #[.pointer (some ⟨l.g, 0, none⟩)] w fun e w' => e = .returned (.tuple #[]) ∧ XRep l (st.alone 12) ex w' ∧ Kept l.own w w' := by
  have HF : Hid (st.alone 12 = st.setA st.x) := rfl
  have c1 := hr.c_op
  rw [ho] at c1
  clear ho
  have c2 := hr.c_x
  obtain ⟨v0, v1⟩ := hi.x
  go_enter Tryz.func105, Tryz.ntmps105
  go_wp2_with fail
  refine (zsetA_any hr _ v0 v1).mono ?_
  rintro e w1 ⟨rfl, hr1, k1⟩
  go_wp2
  (first | go_end0 | refine bodyPost_ret (results_none rfl _ _ _) rfl ?_)
  exact ⟨rfl, hr1.as HF.out.symm rfl, k1⟩

set_option maxRecDepth 100000 in
set_option maxHeartbeats 400000 in
theorem zsingle_13 {l : XL} {st : St} {ex : Ext} {w : World} (hr : XRep l st ex w) (hi : Inv st) (ho : ex.op = 13) :
    Calls Tryz.prog 105 #[.pointer (some ⟨l.g, 0, none⟩)] w fun e w' => e = .returned (.tuple #[]) ∧ XRep l (st.alone 13) ex w' ∧ Kept l.own w w' := by
  have HF : Hid (st.alone 13 = st.setX ((st.x + 1) % 256)) := by
    unfold Hid
    show st.setX (st.x + 1) = _
    unfold St.setX
    rw [Int.emod_emod_of_dvd _ (Int.dvd_refl 256)]
  have c1 := hr.c_op
  rw [ho] at c1
  clear ho
  have c2 := hr.c_x
  obtain ⟨v0, v1⟩ := hi.x
  go_enter Tryz.func105, Tryz.ntmps105
  go_wp2_with fail
  refine (zsetX_any hr _ (by omega) (by omega)).mono ?_
  rintro e w1 ⟨rfl, hr1, k1⟩
  go_wp2
  (first | go_end0 | refine bodyPost_ret (results_none rfl _ _ _) rfl ?_)
  exact ⟨rfl, hr1.as HF.out.symm rfl, k1⟩

set_option maxRecDepth 100000 in
set_option maxHeartbeats 400000 in
theorem zsingle_14 {l : XL} {st : St} {ex : Ext} {w : World} (hr : XRep l st ex w) (hi : Inv st) (ho : ex.op = 14) :
    Calls Tryz.prog 105 #[.pointer (some ⟨l.g, 0, none⟩)] w fun e w' => e = .returned (.tuple #[]) ∧ XRep l (st.alone 14) ex w' ∧ Kept l.own w w' := by
  have HF : Hid (st.alone 14 = st.setX ((st.x - 1) % 256)) := by
    unfold Hid
    show st.setX (st.x - 1) = _
    unfold St.setX
    rw [Int.emod_emod_of_dvd _ (Int.dvd_refl 256)]
  have c1 := hr.c_op
  rw [ho] at c1
  clear ho
  have c2 := hr.c_x
  obtain ⟨v0, v1⟩ := hi.x
  go_enter Tryz.func105, Tryz.ntmps105
  go_wp2_with fail
  refine (zsetX_any hr _ (by omega) (by omega)).mono ?_
  rintro e w1 ⟨rfl, hr1, k1⟩
  go_wp2
  (first | go_end0 | refine bodyPost_ret (results_none rfl _ _ _) rfl ?_)
  exact ⟨rfl, hr1.as HF.out.symm rfl, k1⟩

set_option maxRecDepth 100000 in
set_option maxHeartbeats 400000 in
theorem zsingle_24 {l : XL} {st : St} {ex : Ext} {w : World} (hr : XRep l st ex w) (ho : ex.op = 24) :
    Calls Tryz.prog 105 #[.pointer (some ⟨l.g, 0, none⟩)] w fun e w' => e = .returned (.tuple #[]) ∧ XRep l st { ex with wait := true } w' ∧ Kept l.own w w' := by
  have c1 := hr.c_op
  rw [ho] at c1
  clear ho
  have c2 := hr.c_wait
  have f2 := hr.f_wait
  go_enter Tryz.func105, Tryz.ntmps105
  go_wp2
  (first | go_end0 | refine bodyPost_ret (results_none rfl _ _ _) rfl ?_)
  exact ⟨rfl, hr.set_wait _, (Kept.refl _ _).g _ _⟩

set_option maxRecDepth 100000 in
set_option maxHeartbeats 400000 in
theorem zsingle_0 {l : XL} {st : St} {ex : Ext} {w : World} (hr : XRep l st ex w) (ho : ex.op = 0) :
    Calls Tryz.prog 105 #[.pointer (some ⟨l.g, 0, none⟩)] w fun e w' => e = .returned (.tuple #[]) ∧ XRep l st ex w' ∧ Kept l.own w w' := by
  have c1 := hr.c_op
  rw [ho] at c1
  clear ho
  go_enter Tryz.func105, Tryz.ntmps105
  go_wp2
  (first | go_end0 | refine bodyPost_ret (results_none rfl _ _ _) rfl ?_)
  exact ⟨rfl, hr, Kept.refl _ _⟩

set_option maxRecDepth 100000 in
set_option maxHeartbeats 400000 in
theorem zjumps_17 {l : XL} {st : St} {ex : Ext} {w : World} (hr : XRep l st ex w) (ho : ex.op = 17) :
    Calls Tryz.prog 111 #[.pointer (some ⟨l.g, 0, none⟩)] w fun e w' => e = .returned (.bool (st.zero)) ∧ w' = w := by
  have c1 := hr.c_op
  rw [ho] at c1
  clear ho
  have c2 := hr.c_zero
  have hnot : ∀ (x : Bool) (w : World), (Op.unary .not (.bool x)).run Tryz.prog w = .ok (.bool (!x)) w := fun _ _ => rfl
  go_enter Tryz.func111, Tryz.ntmps111
  go_wp2
  go_ret
  exact ⟨rfl, rfl⟩

set_option maxRecDepth 100000 in
set_option maxHeartbeats 400000 in
theorem zjumps_18 {l : XL} {st : St} {ex : Ext} {w : World} (hr : XRep l st ex w) (ho : ex.op = 18) :
    Calls Tryz.prog 111 #[.pointer (some ⟨l.g, 0, none⟩)] w fun e w' => e = .returned (.bool (!st.zero)) ∧ w' = w := by
  have c1 := hr.c_op
  rw [ho] at c1
  clear ho
  have c2 := hr.c_zero
  have hnot : ∀ (x : Bool) (w : World), (Op.unary .not (.bool x)).run Tryz.prog w = .ok (.bool (!x)) w := fun _ _ => rfl
  go_enter Tryz.func111, Tryz.ntmps111
  go_wp2
  go_ret
  exact ⟨rfl, rfl⟩

set_option maxRecDepth 100000 in
set_option maxHeartbeats 400000 in
theorem zjumps_19 {l : XL} {st : St} {ex : Ext} {w : World} (hr : XRep l st ex w) (ho : ex.op = 19) :
    Calls Tryz.prog 111 #[.pointer (some ⟨l.g, 0, none⟩)] w fun e w' => e = .returned (.bool (st.carry)) ∧ w' = w := by
  have c1 := hr.c_op
  rw [ho] at c1
  clear ho
  have c2 := hr.c_carry
  have hnot : ∀ (x : Bool) (w : World), (Op.unary .not (.bool x)).run Tryz.prog w = .ok (.bool (!x)) w := fun _ _ => rfl
  go_enter Tryz.func111, Tryz.ntmps111
  go_wp2
  go_ret
  exact ⟨rfl, rfl⟩

set_option maxRecDepth 100000 in
set_option maxHeartbeats 400000 in
theorem zjumps_20 {l : XL} {st : St} {ex : Ext} {w : World} (hr : XRep l st ex w) (ho : ex.op = 20) :
    Calls Tryz.prog 111 #[.pointer (some ⟨l.g, 0, none⟩)] w fun e w' => e = .returned (.bool (!st.carry)) ∧ w' = w := by
  have c1 := hr.c_op
  rw [ho] at c1
  clear ho
  have c2 := hr.c_carry
  have hnot : ∀ (x : Bool) (w : World), (Op.unary .not (.bool x)).run Tryz.prog w = .ok (.bool (!x)) w := fun _ _ => rfl
  go_enter Tryz.func111, Tryz.ntmps111
  go_wp2
  go_ret
  exact ⟨rfl, rfl⟩

set_option maxRecDepth 100000 in
set_option maxHeartbeats 400000 in
theorem zjumps_16 {l : XL} {st : St} {ex : Ext} {w : World} (hr : XRep l st ex w) (ho : ex.op = 16) :
    Calls Tryz.prog 111 #[.pointer (some ⟨l.g, 0, none⟩)] w fun e w' => e = .returned (.bool true) ∧ w' = w := by
  have c1 := hr.c_op
  rw [ho] at c1
  clear ho
  go_enter Tryz.func111, Tryz.ntmps111
  go_wp2
  go_ret
  exact ⟨rfl, rfl⟩

theorem zjumps_any {l : XL} {st : St} {ex : Ext} {w : World} (hr : XRep l st ex w) (ho : 16 ≤ ex.op ∧ ex.op ≤ 20) :
    Calls Tryz.prog 111 #[.pointer (some ⟨l.g, 0, none⟩)] w fun e w' => e = .returned (.bool (st.goes ex.op)) ∧ w' = w := by
  have h : ex.op = 16 ∨ ex.op = 17 ∨ ex.op = 18 ∨ ex.op = 19 ∨ ex.op = 20 := by omega
  rcases h with h | h | h | h | h
  · refine (zjumps_16 hr h).mono fun e w' ⟨h1, h2⟩ => ⟨by rw [h1, h]; rfl, h2⟩
  · refine (zjumps_17 hr h).mono fun e w' ⟨h1, h2⟩ => ⟨by rw [h1, h]; simp [St.goes], h2⟩
  · refine (zjumps_18 hr h).mono fun e w' ⟨h1, h2⟩ => ⟨by rw [h1, h]; simp [St.goes], h2⟩
  · refine (zjumps_19 hr h).mono fun e w' ⟨h1, h2⟩ => ⟨by rw [h1, h]; simp [St.goes], h2⟩
  · refine (zjumps_20 hr h).mono fun e w' ⟨h1, h2⟩ => ⟨by rw [h1, h]; simp [St.goes], h2⟩

set_option maxRecDepth 100000 in
set_option maxHeartbeats 400000 in
theorem zdouble_1 {l : XL} {st : St} {ex : Ext} {w : World} (hr : XRep l st ex w) (ho : ex.op = 1) (n : Int) (h0 : 0 ≤ n) (h1 : n ≤ 255) :
    Calls Tryz.prog 102 #[.pointer (some ⟨l.g, 0, none⟩), .int .u8 n] w fun e w' => e = .returned (.tuple #[]) ∧ XRep l (st.jumps 1 n) ex w' ∧ Kept l.own w w' := by
  have c1 := hr.c_op
  rw [ho] at c1
  clear ho
  have HF : Hid (st.jumps 1 n = st.setA n) := rfl
  go_enter Tryz.func102, Tryz.ntmps102
  go_wp2_with fail
  refine (zsetA_any hr _ h0 h1).mono ?_
  rintro e w1 ⟨rfl, hr1, k1⟩
  go_wp2
  (first | go_end0 | refine bodyPost_ret (results_none rfl _ _ _) rfl ?_)
  exact ⟨rfl, hr1.as HF.out.symm rfl, k1⟩

set_option maxRecDepth 100000 in
set_option maxHeartbeats 400000 in
theorem zdouble_jump {l : XL} {st : St} {ex : Ext} {w : World} (hr : XRep l st ex w) (op : Int) (hop : ex.op = op) (ho : 16 ≤ op ∧ op ≤ 20) (n : Int) :
    Calls Tryz.prog 102 #[.pointer (some ⟨l.g, 0, none⟩), .int .u8 n] w fun e w' => e = .returned (.tuple #[]) ∧ XRep l (st.jumps op n) ex w' ∧ Kept l.own w w' := by
  have hj := zjumps_any hr (by rw [hop]; exact ho)
  have c1 := hr.c_op
  rw [hop] at c1 hj
  have n1 : (op == 1) = false := beq_eq_false_iff_ne.2 (by omega)
  have n1' : ¬ op = 1 := by omega
  have c2 := hr.c_pc
  have f2 := hr.f_pc
  cases hg : st.goes op
  · have HF : Hid (st.jumps op n = st) := by simp [Hid, St.jumps, n1', hg]
    rw [hg] at hj
    have HJ : Hid _ := hj
    clear hj hg n1' ho hop
    go_enter Tryz.func102, Tryz.ntmps102
    go_wp2_with fail
    refine Calls.mono HJ.out ?_
    rintro e w1 ⟨rfl, rfl⟩
    go_wp2
    (first | go_end0 | refine bodyPost_ret (results_none rfl _ _ _) rfl ?_)
    exact ⟨rfl, hr.as HF.out.symm rfl, Kept.refl _ _⟩
  · have HF : Hid (st.jumps op n = { st with pc := n }) := by simp [Hid, St.jumps, n1', hg]
    rw [hg] at hj
    have HJ : Hid _ := hj
    clear hj hg n1' ho hop
    go_enter Tryz.func102, Tryz.ntmps102
    go_wp2_with fail
    refine Calls.mono HJ.out ?_
    rintro e w1 ⟨rfl, rfl⟩
    go_wp2
    (first | go_end0 | refine bodyPost_ret (results_none rfl _ _ _) rfl ?_)
    exact ⟨rfl, (hr.set_pc _).as HF.out.symm rfl, (Kept.refl _ _).g _ _⟩

set_option maxRecDepth 100000 in
set_option maxHeartbeats 400000 in
theorem zread_2 {l : XL} {st : St} {ex : Ext} {w : World} (hr : XRep l st ex w) (hi : Inv st) (ho : ex.op = 2) (n : Int) (h0 : 0 ≤ n) (h1 : n ≤ 255) :
    Calls Tryz.prog 104 #[.pointer (some ⟨l.g, 0, none⟩), .int .u8 n] w fun e w' => e = .returned (.tuple #[]) ∧ XRep l (st.takes 2 n) ex w' ∧ Kept l.own w w' := by
  have c1 := hr.c_op
  rw [ho] at c1
  clear ho
  have c2 := hr.c_a
  have c3 := hr.c_carry
  have f3 := hr.f_carry
  obtain ⟨v0, v1⟩ := hi.a
  have HF : Hid (st.takes 2 n = st.setA n) := rfl
  go_enter Tryz.func104, Tryz.ntmps104
  go_wp2_with fail
  refine (zsetA_any hr _ h0 h1).mono ?_
  rintro e w1 ⟨rfl, hr1, k1⟩
  go_wp2
  (first | go_end0 | refine bodyPost_ret (results_none rfl _ _ _) rfl ?_)
  exact ⟨rfl, hr1.as HF.out.symm rfl, k1⟩

set_option maxRecDepth 100000 in
set_option maxHeartbeats 400000 in
theorem zread_9 {l : XL} {st : St} {ex : Ext} {w : World} (hr : XRep l st ex w) (hi : Inv st) (ho : ex.op = 9) (n : Int) (h0 : 0 ≤ n) (h1 : n ≤ 255) :
    Calls Tryz.prog 104 #[.pointer (some ⟨l.g, 0, none⟩), .int .u8 n] w fun e w' => e = .returned (.tuple #[]) ∧ XRep l (st.takes 9 n) ex w' ∧ Kept l.own w w' := by
  have c1 := hr.c_op
  rw [ho] at c1
  clear ho
  have c2 := hr.c_a
  have c3 := hr.c_carry
  have f3 := hr.f_carry
  obtain ⟨v0, v1⟩ := hi.a
  have HF : Hid (st.takes 9 n = st.setA n) := rfl
  go_enter Tryz.func104, Tryz.ntmps104
  go_wp2_with fail
  refine (zsetA_any hr _ h0 h1).mono ?_
  rintro e w1 ⟨rfl, hr1, k1⟩
  go_wp2
  (first | go_end0 | refine bodyPost_ret (results_none rfl _ _ _) rfl ?_)
  exact ⟨rfl, hr1.as HF.out.symm rfl, k1⟩

set_option maxRecDepth 100000 in
set_option maxHeartbeats 400000 in
theorem zread_4 {l : XL} {st : St} {ex : Ext} {w : World} (hr : XRep l st ex w) (hi : Inv st) (ho : ex.op = 4) (n : Int) (h0 : 0 ≤ n) (h1 : n ≤ 255) :
    Calls Tryz.prog 104 #[.pointer (some ⟨l.g, 0, none⟩), .int .u8 n] w fun e w' => e = .returned (.tuple #[]) ∧ XRep l (st.takes 4 n) ex w' ∧ Kept l.own w w' := by
  have c1 := hr.c_op
  rw [ho] at c1
  clear ho
  have c2 := hr.c_a
  have c3 := hr.c_carry
  have f3 := hr.f_carry
  obtain ⟨v0, v1⟩ := hi.a
  have HF : Hid (st.takes 4 n = ({ st with carry := decide ((st.a + n) % 256 < n) }).setA ((st.a + n) % 256)) := by
    unfold Hid
    show ({ st with carry := decide (255 < st.a + n) }).setA (st.a + n) = _
    have e : decide (255 < st.a + n) = decide ((st.a + n) % 256 < n) := by
      rw [decide_eq_decide]; omega
    rw [e]
    unfold St.setA
    rw [Int.emod_emod_of_dvd _ (Int.dvd_refl 256)]
  go_enter Tryz.func104, Tryz.ntmps104
  go_wp2_with fail
  refine (zsetA_any (hr.set_carry _) _ (by omega) (by omega)).mono ?_
  rintro e w1 ⟨rfl, hr1, k1⟩
  go_wp2
  (first | go_end0 | refine bodyPost_ret (results_none rfl _ _ _) rfl ?_)
  exact ⟨rfl, hr1.as HF.out.symm rfl, ((Kept.refl _ _).g _ _).trans k1⟩

set_option maxRecDepth 100000 in
set_option maxHeartbeats 400000 in
theorem zread_5 {l : XL} {st : St} {ex : Ext} {w : World} (hr : XRep l st ex w) (hi : Inv st) (ho : ex.op = 5) (n : Int) (h0 : 0 ≤ n) (h1 : n ≤ 255) :
    Calls Tryz.prog 104 #[.pointer (some ⟨l.g, 0, none⟩), .int .u8 n] w fun e w' => e = .returned (.tuple #[]) ∧ XRep l (st.takes 5 n) ex w' ∧ Kept l.own w w' := by
  have c1 := hr.c_op
  rw [ho] at c1
  clear ho
  have c2 := hr.c_a
  have c3 := hr.c_carry
  have f3 := hr.f_carry
  obtain ⟨v0, v1⟩ := hi.a
  have HF : Hid (st.takes 5 n = ({ st with carry := decide (st.a < n) }).setA ((st.a - n) % 256)) := by
    unfold Hid
    show ({ st with carry := decide (st.a < n) }).setA (st.a - n) = _
    unfold St.setA
    rw [Int.emod_emod_of_dvd _ (Int.dvd_refl 256)]
  go_enter Tryz.func104, Tryz.ntmps104
  go_wp2_with fail
  refine (zsetA_any (hr.set_carry _) _ (by omega) (by omega)).mono ?_
  rintro e w1 ⟨rfl, hr1, k1⟩
  go_wp2
  (first | go_end0 | refine bodyPost_ret (results_none rfl _ _ _) rfl ?_)
  exact ⟨rfl, hr1.as HF.out.symm rfl, ((Kept.refl _ _).g _ _).trans k1⟩

set_option maxRecDepth 100000 in
set_option maxHeartbeats 400000 in
theorem zread_6 {l : XL} {st : St} {ex : Ext} {w : World} (hr : XRep l st ex w) (hi : Inv st) (ho : ex.op = 6) (n : Int) (h0 : 0 ≤ n) (h1 : n ≤ 255) :
    Calls Tryz.prog 104 #[.pointer (some ⟨l.g, 0, none⟩), .int .u8 n] w fun e w' => e = .returned (.tuple #[]) ∧ XRep l (st.takes 6 n) ex w' ∧ Kept l.own w w' := by
  have c1 := hr.c_op
  rw [ho] at c1
  clear ho
  have c2 := hr.c_a
  have c3 := hr.c_carry
  have f3 := hr.f_carry
  obtain ⟨v0, v1⟩ := hi.a
  have HF : Hid (st.takes 6 n = st.setA (andN st.a n)) := rfl
  have hb := andN_bounds st.a n v0 v1 h0 h1
  have hbits := u8_and st.a n v0 v1 h0 h1
  go_enter Tryz.func104, Tryz.ntmps104
  go_wp2_with fail
  refine (zsetA_any hr _ hb.1 hb.2).mono ?_
  rintro e w1 ⟨rfl, hr1, k1⟩
  go_wp2
  (first | go_end0 | refine bodyPost_ret (results_none rfl _ _ _) rfl ?_)
  exact ⟨rfl, hr1.as HF.out.symm rfl, k1⟩

set_option maxRecDepth 100000 in
set_option maxHeartbeats 400000 in
theorem zread_7 {l : XL} {st : St} {ex : Ext} {w : World} (hr : XRep l st ex w) (hi : Inv st) (ho : ex.op = 7) (n : Int) (h0 : 0 ≤ n) (h1 : n ≤ 255) :
    Calls Tryz.prog 104 #[.pointer (some ⟨l.g, 0, none⟩), .int .u8 n] w fun e w' => e = .returned (.tuple #[]) ∧ XRep l (st.takes 7 n) ex w' ∧ Kept l.own w w' := by
  have c1 := hr.c_op
  rw [ho] at c1
  clear ho
  have c2 := hr.c_a
  have c3 := hr.c_carry
  have f3 := hr.f_carry
  obtain ⟨v0, v1⟩ := hi.a
  have HF : Hid (st.takes 7 n = st.setA (orN st.a n)) := rfl
  have hb := orN_bounds st.a n v0 v1 h0 h1
  have hbits := u8_or st.a n v0 v1 h0 h1
  go_enter Tryz.func104, Tryz.ntmps104
  go_wp2_with fail
  refine (zsetA_any hr _ hb.1 hb.2).mono ?_
  rintro e w1 ⟨rfl, hr1, k1⟩
  go_wp2
  (first | go_end0 | refine bodyPost_ret (results_none rfl _ _ _) rfl ?_)
  exact ⟨rfl, hr1.as HF.out.symm rfl, k1⟩

set_option maxRecDepth 100000 in
set_option maxHeartbeats 400000 in
theorem zread_8 {l : XL} {st : St} {ex : Ext} {w : World} (hr : XRep l st ex w) (hi : Inv st) (ho : ex.op = 8) (n : Int) (h0 : 0 ≤ n) (h1 : n ≤ 255) :
    Calls Tryz.prog 104 #[.pointer (some ⟨l.g, 0, none⟩), .int .u8 n] w fun e w' => e = .returned (.tuple #[]) ∧ XRep l (st.takes 8 n) ex w' ∧ Kept l.own w w' := by
  have c1 := hr.c_op
  rw [ho] at c1
  clear ho
  have c2 := hr.c_a
  have c3 := hr.c_carry
  have f3 := hr.f_carry
  obtain ⟨v0, v1⟩ := hi.a
  have HF : Hid (st.takes 8 n = st.setA (xorN st.a n)) := rfl
  have hb := xorN_bounds st.a n v0 v1 h0 h1
  have hbits := u8_xor st.a n v0 v1 h0 h1
  go_enter Tryz.func104, Tryz.ntmps104
  go_wp2_with fail
  refine (zsetA_any hr _ hb.1 hb.2).mono ?_
  rintro e w1 ⟨rfl, hr1, k1⟩
  go_wp2
  (first | go_end0 | refine bodyPost_ret (results_none rfl _ _ _) rfl ?_)
  exact ⟨rfl, hr1.as HF.out.symm rfl, k1⟩

theorem zread_any {l : XL} {st : St} {ex : Ext} {w : World} (hr : XRep l st ex w) (hi : Inv st) (op : Int) (ho : ex.op = op) (h : 2 ≤ op ∧ op ≤ 9) (h3 : ¬ op = 3) (n : Int) (h0 : 0 ≤ n) (h1 : n ≤ 255) :
    Calls Tryz.prog 104 #[.pointer (some ⟨l.g, 0, none⟩), .int .u8 n] w fun e w' => e = .returned (.tuple #[]) ∧ XRep l (st.takes op n) ex w' ∧ Kept l.own w w' := by
  have hh : op = 2 ∨ op = 4 ∨ op = 5 ∨ op = 6 ∨ op = 7 ∨ op = 8 ∨ op = 9 := by omega
  rcases hh with rfl | rfl | rfl | rfl | rfl | rfl | rfl
  · exact zread_2 hr hi ho n h0 h1
  · exact zread_4 hr hi ho n h0 h1
  · exact zread_5 hr hi ho n h0 h1
  · exact zread_6 hr hi ho n h0 h1
  · exact zread_7 hr hi ho n h0 h1
  · exact zread_8 hr hi ho n h0 h1
  · exact zread_9 hr hi ho n h0 h1

theorem zdouble_any {l : XL} {st : St} {ex : Ext} {w : World} (hr : XRep l st ex w) (op : Int) (hop : ex.op = op) (ho : op = 1 ∨ (16 ≤ op ∧ op ≤ 20)) (n : Int) (h0 : 0 ≤ n) (h1 : n ≤ 255) :
    Calls Tryz.prog 102 #[.pointer (some ⟨l.g, 0, none⟩), .int .u8 n] w fun e w' => e = .returned (.tuple #[]) ∧ XRep l (st.jumps op n) ex w' ∧ Kept l.own w w' := by
  rcases ho with rfl | ho
  · exact zdouble_1 hr hop n h0 h1
  · exact zdouble_jump hr op hop ho n

/-- What an instruction without operand does to what stands beside. -/
def aloneX (ex : Ext) (op : Int) : Ext := if op = 24 then { ex with wait := true } else ex

/-- What it does to the state, but that it waits. -/
def aloneS (st : St) (op : Int) : St := if op = 24 then st else st.alone op

theorem zsingle_any {l : XL} {st : St} {ex : Ext} {w : World} (hr : XRep l st ex w) (hi : Inv st) (op : Int) (ho : ex.op = op) (h : op = 0 ∨ op = 11 ∨ op = 12 ∨ op = 13 ∨ op = 14 ∨ op = 24) :
    Calls Tryz.prog 105 #[.pointer (some ⟨l.g, 0, none⟩)] w fun e w' => e = .returned (.tuple #[]) ∧ XRep l (aloneS st op) (aloneX ex op) w' ∧ Kept l.own w w' := by
  rcases h with rfl | rfl | rfl | rfl | rfl | rfl
  · exact zsingle_0 hr ho
  · exact zsingle_11 hr hi ho
  · exact zsingle_12 hr hi ho
  · exact zsingle_13 hr hi ho
  · exact zsingle_14 hr hi ho
  · exact zsingle_24 hr ho

end Go.Proofs.YtikdbpphbdbdnaaGreat
