/- The board as plain mathematics: its state, and what a cycle does to it, as the document says it. No program is named here. -/
import Derived.Test.YtommhbidkoeifaaGreatPlain
namespace Go.Proofs.YtommhbidkoeifaaGreat

/-- How a board stands. mem: the memory; b0, b1: the banks; opd: the operand of the instruction that was begun; rst: the cause of a reset that came in this cycle. -/
structure St where
  mem : Nat → Int
  b0 : Nat → Int
  b1 : Nat → Int
  bank : Int
  s0 : Int
  s1 : Int
  cause : Int
  left : Int
  down : Bool
  a : Int
  x : Int
  pc : Int
  zero : Bool
  carry : Bool
  op : Int
  opd : Int
  phase : Int
  period : Int
  count : Int
  flag : Bool
  age : Int
  window : Int
  windowed : Bool
  key : Bool
  out : Int
  inp : Int
  opn : Bool
  place : Int
  rst : Int

/-- A function with another value at one place. -/
def upd (f : Nat → Int) (k : Nat) (v : Int) : Nat → Int := fun i => if i = k then v else f i

def flagN (b : Bool) : Int := if b = true then 1 else 0

/-- The byte of a bank. -/
def St.inBank (st : St) (k : Int) (i : Nat) : Int := if k = 0 then st.b0 i else st.b1 i

def St.setBank (st : St) (k : Int) (f : Nat → Int) : St := if k = 0 then { st with b0 := f } else { st with b1 := f }

def St.strikes (st : St) : Int := if st.bank = 0 then st.s0 else st.s1
def St.setStrikes (st : St) (n : Int) : St := if st.bank = 0 then { st with s0 := n } else { st with s1 := n }

/-- The byte at an address. -/
def St.read (st : St) (a : Int) : Int :=
  if a < 128 then st.mem a.toNat else
  if a < 192 then st.inBank st.bank (a - 128).toNat else
  if a = 192 then st.period else
  if a = 193 then st.count else
  if a = 194 then flagN st.flag else
  if a = 195 then st.age else
  if a = 196 then st.window else
  if a = 197 then st.out else
  if a = 198 then st.inp else
  if a = 199 then flagN st.opn else
  if a = 200 then st.place else
  if a = 201 then st.inBank (1 - st.bank) st.place.toNat else
  if a = 202 then st.cause else
  if a = 203 then st.bank else 0

/-- Does a reset with this cause give a strike? -/
def strikesB (c : Int) : Bool := c == 2 || c == 3 || c == 4

def St.reset (st : St) (c : Int) : St :=
  if strikesB c = true then ({ st with cause := c, left := 4, rst := c }).setStrikes (Go.RowKit.wrap64 (({ st with cause := c, left := 4, rst := c } : St).strikes + 1))
  else { st with cause := c, left := 4, rst := c }

def St.keys (st : St) (v : Int) : St :=
  if v = 105 ∧ st.key = true then
    (if st.age < st.window then ({ st with key := (v == 150) }).reset 3 else { st with key := (v == 150), age := 0 })
  else { st with key := (v == 150) }

def St.updates (st : St) (a v : Int) : St :=
  if a = 199 then
    (if v = 229 then { ({ st with opn := true }).setBank (1 - st.bank) (fun _ => 255) with place := 0 } else { st with opn := false })
  else if a = 200 then { st with place := v % 64 }
  else if a = 201 then
    (if st.opn = true then { st.setBank (1 - st.bank) (upd (st.inBank (1 - st.bank)) st.place.toNat v) with place := (st.place + 1) % 64 } else st)
  else if a = 203 then (if v = 13 then st.setStrikes 0 else st)
  else st

def St.write (st : St) (a v : Int) : St :=
  if a < 128 then { st with mem := upd st.mem a.toNat v }
  else if a = 192 then { st with period := v, count := v, flag := false }
  else if a = 194 then { st with flag := false }
  else if a = 195 then st.keys v
  else if a = 196 then (if st.windowed = false ∧ v ≤ 200 then { st with window := v, windowed := true } else st)
  else if a = 197 then { st with out := v }
  else if 199 ≤ a then st.updates a v
  else st

/-- What lies in a bank, as a text. -/
def bankS (f : Nat → Int) : ByteArray := ⟨((List.range 64).map fun i => UInt8.ofNat (f i).toNat).toArray⟩

def St.boot (st : St) : St :=
  { (if anewB (bankS st.b0) (bankS st.b1) st.s0 st.s1 = true then { st with s0 := 0, s1 := 0 } else st) with
    bank := chooseB (bankS st.b0) (bankS st.b1) st.s0 st.s1, a := 0, x := 0, pc := 130, zero := false, carry := false, phase := 0, period := 0, count := 0, flag := false, age := 0, window := 0, windowed := false, key := false, out := 0, opn := false, place := 0 }

/-- How many cycles an instruction takes; 0: there is none of this byte. -/
def opLen (op : Int) : Int :=
  if op = 0 ∨ op = 11 ∨ op = 12 ∨ op = 13 ∨ op = 14 ∨ op = 24 then 1
  else if op = 1 ∨ (16 ≤ op ∧ op ≤ 20) then 2
  else if 2 ≤ op ∧ op ≤ 10 then 3
  else 0

def St.setA (st : St) (n : Int) : St := { st with a := n % 256, zero := (n % 256 == 0) }
def St.setX (st : St) (n : Int) : St := { st with x := n % 256, zero := (n % 256 == 0) }

def St.alone (st : St) (op : Int) : St :=
  if op = 11 then st.setX st.a else if op = 12 then st.setA st.x else if op = 13 then st.setX (st.x + 1) else if op = 14 then st.setX (st.x - 1) else if op = 24 then { st with phase := 3 } else st

/-- Does a jump jump? -/
def St.goes (st : St) (op : Int) : Bool :=
  op == 16 || (op == 17 && st.zero) || (op == 18 && !st.zero) || (op == 19 && st.carry) || (op == 20 && !st.carry)

def St.jumps (st : St) (op n : Int) : St :=
  if op = 1 then st.setA n else if st.goes op = true then { st with pc := n } else st

/-- What is seen of a cycle. -/
structure Cy where
  kind : Int
  addr : Int
  data : Int
  out : Int

def andN (a b : Int) : Int := ((a.toNat &&& b.toNat : Nat) : Int)
def orN (a b : Int) : Int := ((a.toNat ||| b.toNat : Nat) : Int)
def xorN (a b : Int) : Int := ((a.toNat ^^^ b.toNat : Nat) : Int)

def St.target (st : St) (op at_ : Int) : Int := if op = 9 ∨ op = 10 then (at_ + st.x) % 256 else at_

/-- What an instruction does with the byte that it has read. -/
def St.takes (st : St) (op n : Int) : St :=
  if op = 4 then ({ st with carry := decide (255 < st.a + n) }).setA (st.a + n)
  else if op = 5 then ({ st with carry := decide (st.a < n) }).setA (st.a - n)
  else if op = 6 then st.setA (andN st.a n)
  else if op = 7 then st.setA (orN st.a n)
  else if op = 8 then st.setA (xorN st.a n)
  else st.setA n

def St.asks (st : St) (op at_ : Int) : St × Cy :=
  if op = 3 ∨ op = 10 then (st.write (st.target op at_) st.a, ⟨6, st.target op at_, st.a, 0⟩)
  else (st.takes op (st.read (st.target op at_)), ⟨5, st.target op at_, st.read (st.target op at_), 0⟩)

def St.next (st : St) (kind : Int) : St × Cy := ({ st with pc := (st.pc + 1) % 256 }, ⟨kind, st.pc, st.read st.pc, 0⟩)

def St.works (st : St) : St × Cy :=
  if st.phase = 3 ∧ st.flag = false then (st, ⟨2, 0, 0, 0⟩)
  else if st.phase = 1 then
    (if opLen st.op = 3 then { (st.next 4).1 with phase := 2, opd := (st.next 4).2.data } else ({ (st.next 4).1 with phase := 0 }).jumps st.op (st.next 4).2.data, (st.next 4).2)
  else if st.phase = 2 then ({ st with phase := 0 }).asks st.op st.opd
  else
    (if opLen (st.next 3).2.data = 0 then ({ (st.next 3).1 with phase := 0, op := (st.next 3).2.data }).reset 4
     else if opLen (st.next 3).2.data = 1 then ({ (st.next 3).1 with phase := 0, op := (st.next 3).2.data }).alone (st.next 3).2.data
     else { (st.next 3).1 with phase := 1, op := (st.next 3).2.data }, (st.next 3).2)

/-- The timer's cycle. -/
def St.ticks (st : St) : St :=
  if 0 < st.period then (if st.count - 1 = 0 then { st with count := st.period, flag := true } else { st with count := st.count - 1 }) else st

/-- The watch's cycle. -/
def St.ages (st : St) : St :=
  if 250 < st.age + 1 then ({ st with age := st.age + 1 }).reset 2 else { st with age := st.age + 1 }

def St.runs (st : St) : St × Cy :=
  let r := ({ st with rst := 0 }).works
  let s := if r.1.rst = 0 then r.1.ticks.ages else r.1
  (s, { r.2 with out := s.out })

/-- One cycle's input. -/
structure In where
  reset : Bool
  volts : Int
  port : Int

def St.supply (st : St) (i : In) : St :=
  if i.volts < 2700 then { st with inp := i.port, down := true } else if 3000 ≤ i.volts then { st with inp := i.port, down := false } else { st with inp := i.port }

def St.step (st : St) (i : In) : St × Cy :=
  if (st.supply i).down = true then ((st.supply i).reset 6, ⟨0, 0, 0, 0⟩)
  else if i.reset = true then ((st.supply i).reset 5, ⟨0, 0, 0, 0⟩)
  else if 0 < (st.supply i).left then
    (if (st.supply i).left - 1 = 0 then ({ st.supply i with left := (st.supply i).left - 1 }).boot else { st.supply i with left := (st.supply i).left - 1 }, ⟨0, 0, 0, 0⟩)
  else if (st.supply i).bank < 0 then (st.supply i, ⟨1, 0, 0, 0⟩)
  else (st.supply i).runs

/-- What holds of every board at every time. -/
structure Inv (st : St) : Prop where
  mem : ∀ i, 0 ≤ st.mem i ∧ st.mem i ≤ 255
  b0 : ∀ i, 0 ≤ st.b0 i ∧ st.b0 i ≤ 255
  b1 : ∀ i, 0 ≤ st.b1 i ∧ st.b1 i ≤ 255
  bank : -1 ≤ st.bank ∧ st.bank ≤ 1
  cause : 0 ≤ st.cause ∧ st.cause ≤ 6
  left : 0 ≤ st.left ∧ st.left ≤ 4
  a : 0 ≤ st.a ∧ st.a ≤ 255
  x : 0 ≤ st.x ∧ st.x ≤ 255
  pc : 0 ≤ st.pc ∧ st.pc ≤ 255
  op : 0 ≤ st.op ∧ st.op ≤ 255
  opd : 0 ≤ st.opd ∧ st.opd ≤ 255
  phase : 0 ≤ st.phase ∧ st.phase ≤ 3
  period : 0 ≤ st.period ∧ st.period ≤ 255
  count : 0 ≤ st.count ∧ st.count ≤ 255
  cnt : 0 < st.period → 1 ≤ st.count
  age : 0 ≤ st.age ∧ st.age ≤ 251
  window : 0 ≤ st.window ∧ st.window ≤ 200
  out : 0 ≤ st.out ∧ st.out ≤ 255
  inp : 0 ≤ st.inp ∧ st.inp ≤ 255
  place : 0 ≤ st.place ∧ st.place ≤ 63
  ph2 : st.phase = 2 → 2 ≤ st.op ∧ st.op ≤ 10
  aged : st.left = 0 → st.age ≤ 250

theorem andN_bounds (a b : Int) (_h1 : 0 ≤ a) (_h2 : a ≤ 255) (h3 : 0 ≤ b) (h4 : b ≤ 255) : 0 ≤ andN a b ∧ andN a b ≤ 255 := by
  have hx : a.toNat &&& b.toNat < 2 ^ 8 := Nat.and_lt_two_pow _ (by omega)
  unfold andN
  omega

theorem i64_and (a b : Int) (h1 : 0 ≤ a) (h2 : a ≤ 255) (h3 : 0 ≤ b) (h4 : b ≤ 255) : bits .and .i64 a b = andN a b := by
  obtain ⟨A, rfl⟩ := Int.eq_ofNat_of_zero_le h1
  obtain ⟨B, rfl⟩ := Int.eq_ofNat_of_zero_le h3
  have ha : (BitVec.ofInt 64 (A : Int)).toNat = A := by rw [BitVec.ofInt_natCast, BitVec.toNat_ofNat]; exact Nat.mod_eq_of_lt (by omega)
  have hb : (BitVec.ofInt 64 (B : Int)).toNat = B := by rw [BitVec.ofInt_natCast, BitVec.toNat_ofNat]; exact Nat.mod_eq_of_lt (by omega)
  have hx : A &&& B < 2 ^ 8 := Nat.and_lt_two_pow _ (by omega)
  show IntKind.i64.wrap ((BitVec.ofInt 64 (A : Int) &&& BitVec.ofInt 64 (B : Int)).toNat : Int) = _
  rw [BitVec.toNat_and, ha, hb]
  unfold andN
  rw [Int.toNat_natCast, Int.toNat_natCast]
  rw [IntKind.wrap_i64]
  omega

theorem orN_bounds (a b : Int) (h1 : 0 ≤ a) (h2 : a ≤ 255) (h3 : 0 ≤ b) (h4 : b ≤ 255) : 0 ≤ orN a b ∧ orN a b ≤ 255 := by
  have hx : a.toNat ||| b.toNat < 2 ^ 8 := Nat.or_lt_two_pow (by omega) (by omega)
  unfold orN
  omega

theorem i64_or (a b : Int) (h1 : 0 ≤ a) (h2 : a ≤ 255) (h3 : 0 ≤ b) (h4 : b ≤ 255) : bits .or .i64 a b = orN a b := by
  obtain ⟨A, rfl⟩ := Int.eq_ofNat_of_zero_le h1
  obtain ⟨B, rfl⟩ := Int.eq_ofNat_of_zero_le h3
  have ha : (BitVec.ofInt 64 (A : Int)).toNat = A := by rw [BitVec.ofInt_natCast, BitVec.toNat_ofNat]; exact Nat.mod_eq_of_lt (by omega)
  have hb : (BitVec.ofInt 64 (B : Int)).toNat = B := by rw [BitVec.ofInt_natCast, BitVec.toNat_ofNat]; exact Nat.mod_eq_of_lt (by omega)
  have hx : A ||| B < 2 ^ 8 := Nat.or_lt_two_pow (by omega) (by omega)
  show IntKind.i64.wrap ((BitVec.ofInt 64 (A : Int) ||| BitVec.ofInt 64 (B : Int)).toNat : Int) = _
  rw [BitVec.toNat_or, ha, hb]
  unfold orN
  rw [Int.toNat_natCast, Int.toNat_natCast]
  rw [IntKind.wrap_i64]
  omega

theorem xorN_bounds (a b : Int) (h1 : 0 ≤ a) (h2 : a ≤ 255) (h3 : 0 ≤ b) (h4 : b ≤ 255) : 0 ≤ xorN a b ∧ xorN a b ≤ 255 := by
  have hx : a.toNat ^^^ b.toNat < 2 ^ 8 := Nat.xor_lt_two_pow (by omega) (by omega)
  unfold xorN
  omega

theorem i64_xor (a b : Int) (h1 : 0 ≤ a) (h2 : a ≤ 255) (h3 : 0 ≤ b) (h4 : b ≤ 255) : bits .xor .i64 a b = xorN a b := by
  obtain ⟨A, rfl⟩ := Int.eq_ofNat_of_zero_le h1
  obtain ⟨B, rfl⟩ := Int.eq_ofNat_of_zero_le h3
  have ha : (BitVec.ofInt 64 (A : Int)).toNat = A := by rw [BitVec.ofInt_natCast, BitVec.toNat_ofNat]; exact Nat.mod_eq_of_lt (by omega)
  have hb : (BitVec.ofInt 64 (B : Int)).toNat = B := by rw [BitVec.ofInt_natCast, BitVec.toNat_ofNat]; exact Nat.mod_eq_of_lt (by omega)
  have hx : A ^^^ B < 2 ^ 8 := Nat.xor_lt_two_pow (by omega) (by omega)
  show IntKind.i64.wrap ((BitVec.ofInt 64 (A : Int) ^^^ BitVec.ofInt 64 (B : Int)).toNat : Int) = _
  rw [BitVec.toNat_xor, ha, hb]
  unfold xorN
  rw [Int.toNat_natCast, Int.toNat_natCast]
  rw [IntKind.wrap_i64]
  omega

end Go.Proofs.YtommhbidkoeifaaGreat
