/- Of several texts, one behind the other. -/
import Derived.WalkKit
/- The plain arithmetic of images: the sum of the bytes, what a valid image is, what is built. No program is named here. -/
namespace Go.Proofs.YtikdbpphbdbdnaaGreat
open Go.RowKit

/-- The sum of all bytes. -/
def bsum : List UInt8 → Nat
  | [] => 0
  | c :: r => c.toNat + bsum r

theorem bsum_append (a b : List UInt8) : bsum (a ++ b) = bsum a + bsum b := by
  induction a with
  | nil => simp [bsum]
  | cons c r ih => simp [bsum, ih]; omega

/-- The sum of the first k bytes, modulo 256. -/
def psum (s : ByteArray) (k : Nat) : Int := ((bsum (s.data.toList.take k) % 256 : Nat) : Int)

theorem psum_zero (s : ByteArray) : psum s 0 = 0 := by simp [psum, bsum]

theorem psum_bounds (s : ByteArray) (k : Nat) : 0 ≤ psum s k ∧ psum s k ≤ 255 := by unfold psum; omega

theorem take_snoc (s : ByteArray) (k : Nat) (h : k < s.size) : s.data.toList.take (k + 1) = s.data.toList.take k ++ [s[k]] := by
  rw [List.take_succ_eq_append_getElem (by simpa using h)]; rfl

theorem psum_succ (s : ByteArray) (k : Nat) (h : k < s.size) : psum s (k + 1) = (psum s k + (s[k].toNat : Int)) % 256 := by
  unfold psum
  rw [take_snoc s k h, bsum_append]
  simp [bsum]

theorem psum_all (s : ByteArray) (k : Nat) (h : s.size ≤ k) : psum s k = psum s s.size := by
  unfold psum
  rw [List.take_of_length_le (by simpa using h), List.take_of_length_le (by simp)]

theorem sum_round (a : Int) (c : UInt8) (h : 0 ≤ a ∧ a ≤ 255) : (wrap64 (a + wrap64 (c.toNat : Int))).tmod 256 = (a + (c.toNat : Int)) % 256 := by
  have hc : c.toNat < 256 := c.toNat_lt
  have e1 : wrap64 (c.toNat : Int) = c.toNat := by unfold wrap64; omega
  rw [e1]
  have e2 : wrap64 (a + (c.toNat : Int)) = a + c.toNat := by unfold wrap64; omega
  rw [e2, Int.tmod_eq_emod_of_nonneg (by omega)]

/-- What a valid image is. -/
def vldB (s : ByteArray) : Bool := decide (s.size = 64 ∧ ((s.data.toList.getD 0 0).toNat : Int) = 176 ∧ psum s s.size = 165)

theorem head_getD (s : ByteArray) (k : Nat) (h : k < s.size) : s.data.toList.getD k 0 = s[k] := by
  have hk : k < s.data.toList.length := by simpa using h
  simp [List.getD, List.getElem?_eq_getElem hk]
  rfl

theorem vld_size {s : ByteArray} (h : ¬ s.size = 64) : vldB s = false := by simp [vldB, h]

theorem vld_mark {s : ByteArray} (h : 0 < s.size) (hm : ¬ (s[0].toNat : Int) = 176) : vldB s = false := by
  unfold vldB
  rw [head_getD s 0 h]
  exact decide_eq_false (fun x => hm x.2.1)

theorem vld_sum {s : ByteArray} (h64 : s.size = 64) (h : 0 < s.size) (hm : (s[0].toNat : Int) = 176) : vldB s = (psum s 64 == 165) := by
  unfold vldB
  rw [head_getD s 0 h, h64]
  simp [hm]
  rfl

theorem vld_64 {s : ByteArray} (h : vldB s = true) : s.size = 64 := (of_decide_eq_true h).1

/-- May an image be chosen? -/
def fitB (s : ByteArray) (n : Int) : Bool := vldB s && decide (n < 3)

/-- An image's number. -/
def numB (s : ByteArray) : Int := ((s.data.toList.getD 1 0).toNat : Int)

/-- Which of two has the greater number. -/
def grtB (a b : ByteArray) : Int := if numB a < numB b then 1 else 0

/-- The choice among those that may be. -/
def pickB (a b : ByteArray) (x y : Bool) : Int :=
  if x = true then (if y = true then grtB a b else 0) else (if y = true then 1 else -1)

theorem grtB_cases (a b : ByteArray) : grtB a b = 0 ∨ grtB a b = 1 := by unfold grtB; split <;> simp

/-- The choice. -/
def chooseB (a b : ByteArray) (m n : Int) : Int :=
  if pickB a b (fitB a m) (fitB b n) = -1 then pickB a b (vldB a) (vldB b) else pickB a b (fitB a m) (fitB b n)

theorem numB_eq (s : ByteArray) (h : 1 < s.size) : numB s = (s[1].toNat : Int) := by unfold numB; rw [head_getD s 1 h]

theorem grtB_yes (a b : ByteArray) (ha : 1 < a.size) (hb : 1 < b.size) (h : (a[1].toNat : Int) < (b[1].toNat : Int)) : grtB a b = 1 := by
  unfold grtB; rw [numB_eq a ha, numB_eq b hb, if_pos h]

theorem grtB_no (a b : ByteArray) (ha : 1 < a.size) (hb : 1 < b.size) (h : ¬ (a[1].toNat : Int) < (b[1].toNat : Int)) : grtB a b = 0 := by
  unfold grtB; rw [numB_eq a ha, numB_eq b hb, if_neg h]

theorem pickB_tt (a b : ByteArray) : pickB a b true true = grtB a b := rfl
theorem pickB_tf (a b : ByteArray) : pickB a b true false = 0 := rfl
theorem pickB_ft (a b : ByteArray) : pickB a b false true = 1 := rfl
theorem pickB_ff (a b : ByteArray) : pickB a b false false = -1 := rfl

theorem fitB_zero (s : ByteArray) : fitB s 0 = vldB s := by simp [fitB]

theorem fitB_vld {s : ByteArray} {n : Int} (h : fitB s n = true) : vldB s = true := by
  simp only [fitB, Bool.and_eq_true] at h; exact h.1

/-- Do the strikes become 0 first? -/
def anewB (a b : ByteArray) (m n : Int) : Bool := decide (pickB a b (fitB a m) (fitB b n) = -1) && (vldB a || vldB b)

theorem pickB_neg {a b : ByteArray} {x y : Bool} (h : ¬ pickB a b x y = -1) : 0 ≤ pickB a b x y := by
  have := grtB_cases a b
  cases x <;> cases y <;> simp [pickB] at h ⊢ <;> omega

theorem chooseB_old {a b : ByteArray} {m n : Int} (h : ¬ pickB a b (fitB a m) (fitB b n) = -1) : chooseB a b m n = pickB a b (fitB a m) (fitB b n) ∧ anewB a b m n = false := by
  simp [chooseB, anewB, h]

theorem chooseB_none {a b : ByteArray} {m n : Int} (ha : vldB a = false) (hb : vldB b = false) : pickB a b (fitB a m) (fitB b n) = -1 ∧ chooseB a b m n = -1 ∧ anewB a b m n = false := by
  simp [chooseB, anewB, fitB, ha, hb, pickB]

theorem chooseB_new {a b : ByteArray} {m n : Int} (h : pickB a b (fitB a m) (fitB b n) = -1) (hv : (vldB a || vldB b) = true) : chooseB a b m n = pickB a b (vldB a) (vldB b) ∧ anewB a b m n = true := by
  simp only [chooseB, anewB, h, if_true, hv, decide_true, Bool.and_self, and_self]

theorem fitB_vt {s : ByteArray} (h : vldB s = true) (n : Int) : fitB s n = decide (n < 3) := by simp [fitB, h]
theorem fitB_vf {s : ByteArray} (h : vldB s = false) (n : Int) : fitB s n = false := by simp [fitB, h]

/-- The text of one byte. -/
def one (n : Int) : ByteArray := ⟨#[UInt8.ofNat n.toNat]⟩

/-- The beginning of an image: the mark, the number, the program, k bytes 0. -/
def padded (n : Int) (s : ByteArray) (k : Nat) : ByteArray := ⟨(176 :: UInt8.ofNat n.toNat :: (s.data.toList ++ List.replicate k 0)).toArray⟩

theorem one_size (n : Int) : (one n).size = 1 := rfl

theorem padded_size (n : Int) (s : ByteArray) (k : Nat) : (padded n s k).size = s.size + k + 2 := by
  show (List.toArray _).size = s.data.size + k + 2
  rw [List.size_toArray]
  simp only [List.length_cons, List.length_append, List.length_replicate, Array.length_toList]

theorem bytes_ext {a b : ByteArray} (h : a.data.toList = b.data.toList) : a = b := by
  cases a; cases b; simp only [ByteArray.mk.injEq]; exact Array.toList_inj.1 h

theorem padded_start (n : Int) (s : ByteArray) : (⟨#[176]⟩ : ByteArray) ++ one n ++ s = padded n s 0 := by
  apply bytes_ext
  simp only [ByteArray.data_append, Array.toList_append, one, padded, List.replicate_zero, List.append_nil]
  rfl

theorem padded_more (n : Int) (s : ByteArray) (k : Nat) : padded n s k ++ (⟨#[0]⟩ : ByteArray) = padded n s (k + 1) := by
  apply bytes_ext
  simp only [ByteArray.data_append, Array.toList_append, padded, List.replicate_succ', ← List.append_assoc]
  rfl

/-- All of an image but its last byte. -/
def bodyOf (s : ByteArray) (n : Int) : ByteArray := padded n s (61 - s.size)

/-- The image of a program and a number. -/
def imageOf (s : ByteArray) (n : Int) : ByteArray := bodyOf s n ++ one ((421 - psum (bodyOf s n) 63) % 256)

theorem bodyOf_size (s : ByteArray) (n : Int) (h : s.size ≤ 61) : (bodyOf s n).size = 63 := by unfold bodyOf; rw [padded_size]; omega

theorem imageOf_size (s : ByteArray) (n : Int) (h : s.size ≤ 61) : (imageOf s n).size = 64 := by
  unfold imageOf; rw [ByteArray.size_append, bodyOf_size s n h]; rfl

theorem padded_last (s : ByteArray) (n : Int) (h : s.size ≤ 61) : padded n s (62 - s.size) = bodyOf s n ++ (⟨#[0]⟩ : ByteArray) := by
  unfold bodyOf
  rw [padded_more]
  congr 1
  omega

theorem psum_last (a : ByteArray) (h : a.size = 63) : psum (a ++ (⟨#[0]⟩ : ByteArray)) 64 = psum a 63 := by
  unfold psum
  have h1 : (a ++ (⟨#[0]⟩ : ByteArray)).data.toList = a.data.toList ++ [0] := by rw [ByteArray.data_append, Array.toList_append]
  have hl : a.data.toList.length = 63 := by simpa using h
  rw [h1, List.take_of_length_le (by simp [hl]), List.take_of_length_le (by omega), bsum_append]
  rfl

theorem byte_of (n : Int) (h0 : 0 ≤ n) (h1 : n ≤ 255) : ((UInt8.ofNat n.toNat).toNat : Int) = n := by
  rw [UInt8.toNat_ofNat']
  omega

/-- What Build gives: the text and the error. -/
def buildS (s : ByteArray) (n : Int) : ByteArray := if 61 < s.size then ByteArray.empty else if n < 0 ∨ 255 < n then ByteArray.empty else imageOf s n
def buildE (s : ByteArray) (n : Int) : Int := if 61 < s.size then 2 else if n < 0 ∨ 255 < n then 3 else 0

end Go.Proofs.YtikdbpphbdbdnaaGreat

/- The board as plain mathematics: its state, and what a cycle does to it, as the document says it. No program is named here. -/
namespace Go.Proofs.YtikdbpphbdbdnaaGreat

/-- How a board stands. mem: the memory; b0, b1: the banks; opd: the operand of the instruction that was begun; rst: the cause of a reset that came in this cycle. -/
structure St where
  mem : Nat → Int
  b0 : Nat → Int
  b1 : Nat → Int
  bank : Int
  s0 : Int
  s1 : Int
  cause : Int
  left : Int
  down : Bool
  a : Int
  x : Int
  pc : Int
  zero : Bool
  carry : Bool
  op : Int
  opd : Int
  phase : Int
  period : Int
  count : Int
  flag : Bool
  age : Int
  window : Int
  windowed : Bool
  key : Bool
  out : Int
  inp : Int
  opn : Bool
  place : Int
  rst : Int

/-- A function with another value at one place. -/
def upd (f : Nat → Int) (k : Nat) (v : Int) : Nat → Int := fun i => if i = k then v else f i

def flagN (b : Bool) : Int := if b = true then 1 else 0

/-- The byte of a bank. -/
def St.inBank (st : St) (k : Int) (i : Nat) : Int := if k = 0 then st.b0 i else st.b1 i

def St.setBank (st : St) (k : Int) (f : Nat → Int) : St := if k = 0 then { st with b0 := f } else { st with b1 := f }

def St.strikes (st : St) : Int := if st.bank = 0 then st.s0 else st.s1
def St.setStrikes (st : St) (n : Int) : St := if st.bank = 0 then { st with s0 := n } else { st with s1 := n }

/-- The byte at an address. -/
def St.read (st : St) (a : Int) : Int :=
  if a < 128 then st.mem a.toNat else
  if a < 192 then st.inBank st.bank (a - 128).toNat else
  if a = 192 then st.period else
  if a = 193 then st.count else
  if a = 194 then flagN st.flag else
  if a = 195 then st.age else
  if a = 196 then st.window else
  if a = 197 then st.out else
  if a = 198 then st.inp else
  if a = 199 then flagN st.opn else
  if a = 200 then st.place else
  if a = 201 then st.inBank (1 - st.bank) st.place.toNat else
  if a = 202 then st.cause else
  if a = 203 then st.bank else 0

/-- Does a reset with this cause give a strike? -/
def strikesB (c : Int) : Bool := c == 2 || c == 3 || c == 4

def St.reset (st : St) (c : Int) : St :=
  if strikesB c = true then ({ st with cause := c, left := 4, rst := c }).setStrikes (Go.RowKit.wrap64 (({ st with cause := c, left := 4, rst := c } : St).strikes + 1))
  else { st with cause := c, left := 4, rst := c }

def St.keys (st : St) (v : Int) : St :=
  if v = 105 ∧ st.key = true then
    (if st.age < st.window then ({ st with key := (v == 150) }).reset 3 else { st with key := (v == 150), age := 0 })
  else { st with key := (v == 150) }

def St.updates (st : St) (a v : Int) : St :=
  if a = 199 then
    (if v = 229 then { ({ st with opn := true }).setBank (1 - st.bank) (fun _ => 255) with place := 0 } else { st with opn := false })
  else if a = 200 then { st with place := v % 64 }
  else if a = 201 then
    (if st.opn = true then { st.setBank (1 - st.bank) (upd (st.inBank (1 - st.bank)) st.place.toNat v) with place := (st.place + 1) % 64 } else st)
  else if a = 203 then (if v = 13 then st.setStrikes 0 else st)
  else st

def St.write (st : St) (a v : Int) : St :=
  if a < 128 then { st with mem := upd st.mem a.toNat v }
  else if a = 192 then { st with period := v, count := v, flag := false }
  else if a = 194 then { st with flag := false }
  else if a = 195 then st.keys v
  else if a = 196 then (if st.windowed = false ∧ v ≤ 200 then { st with window := v, windowed := true } else st)
  else if a = 197 then { st with out := v }
  else if 199 ≤ a then st.updates a v
  else st

/-- What lies in a bank, as a text. -/
def bankS (f : Nat → Int) : ByteArray := ⟨((List.range 64).map fun i => UInt8.ofNat (f i).toNat).toArray⟩

def St.boot (st : St) : St :=
  { (if anewB (bankS st.b0) (bankS st.b1) st.s0 st.s1 = true then { st with s0 := 0, s1 := 0 } else st) with
    bank := chooseB (bankS st.b0) (bankS st.b1) st.s0 st.s1, a := 0, x := 0, pc := 130, zero := false, carry := false, phase := 0, period := 0, count := 0, flag := false, age := 0, window := 0, windowed := false, key := false, out := 0, opn := false, place := 0 }

/-- How many cycles an instruction takes; 0: there is none of this byte. -/
def opLen (op : Int) : Int :=
  if op = 0 ∨ op = 11 ∨ op = 12 ∨ op = 13 ∨ op = 14 ∨ op = 24 then 1
  else if op = 1 ∨ (16 ≤ op ∧ op ≤ 20) then 2
  else if 2 ≤ op ∧ op ≤ 10 then 3
  else 0

def St.setA (st : St) (n : Int) : St := { st with a := n % 256, zero := (n % 256 == 0) }
def St.setX (st : St) (n : Int) : St := { st with x := n % 256, zero := (n % 256 == 0) }

def St.alone (st : St) (op : Int) : St :=
  if op = 11 then st.setX st.a else if op = 12 then st.setA st.x else if op = 13 then st.setX (st.x + 1) else if op = 14 then st.setX (st.x - 1) else if op = 24 then { st with phase := 3 } else st

/-- Does a jump jump? -/
def St.goes (st : St) (op : Int) : Bool :=
  op == 16 || (op == 17 && st.zero) || (op == 18 && !st.zero) || (op == 19 && st.carry) || (op == 20 && !st.carry)

def St.jumps (st : St) (op n : Int) : St :=
  if op = 1 then st.setA n else if st.goes op = true then { st with pc := n } else st

/-- What is seen of a cycle. -/
structure Cy where
  kind : Int
  addr : Int
  data : Int
  out : Int

def andN (a b : Int) : Int := ((a.toNat &&& b.toNat : Nat) : Int)
def orN (a b : Int) : Int := ((a.toNat ||| b.toNat : Nat) : Int)
def xorN (a b : Int) : Int := ((a.toNat ^^^ b.toNat : Nat) : Int)

def St.target (st : St) (op at_ : Int) : Int := if op = 9 ∨ op = 10 then (at_ + st.x) % 256 else at_

/-- What an instruction does with the byte that it has read. -/
def St.takes (st : St) (op n : Int) : St :=
  if op = 4 then ({ st with carry := decide (255 < st.a + n) }).setA (st.a + n)
  else if op = 5 then ({ st with carry := decide (st.a < n) }).setA (st.a - n)
  else if op = 6 then st.setA (andN st.a n)
  else if op = 7 then st.setA (orN st.a n)
  else if op = 8 then st.setA (xorN st.a n)
  else st.setA n

def St.asks (st : St) (op at_ : Int) : St × Cy :=
  if op = 3 ∨ op = 10 then (st.write (st.target op at_) st.a, ⟨6, st.target op at_, st.a, 0⟩)
  else (st.takes op (st.read (st.target op at_)), ⟨5, st.target op at_, st.read (st.target op at_), 0⟩)

def St.next (st : St) (kind : Int) : St × Cy := ({ st with pc := (st.pc + 1) % 256 }, ⟨kind, st.pc, st.read st.pc, 0⟩)

def St.works (st : St) : St × Cy :=
  if st.phase = 3 ∧ st.flag = false then (st, ⟨2, 0, 0, 0⟩)
  else if st.phase = 1 then
    (if opLen st.op = 3 then { (st.next 4).1 with phase := 2, opd := (st.next 4).2.data } else ({ (st.next 4).1 with phase := 0 }).jumps st.op (st.next 4).2.data, (st.next 4).2)
  else if st.phase = 2 then ({ st with phase := 0 }).asks st.op st.opd
  else
    (if opLen (st.next 3).2.data = 0 then ({ (st.next 3).1 with phase := 0, op := (st.next 3).2.data }).reset 4
     else if opLen (st.next 3).2.data = 1 then ({ (st.next 3).1 with phase := 0, op := (st.next 3).2.data }).alone (st.next 3).2.data
     else { (st.next 3).1 with phase := 1, op := (st.next 3).2.data }, (st.next 3).2)

/-- The timer's cycle. -/
def St.ticks (st : St) : St :=
  if 0 < st.period then (if st.count - 1 = 0 then { st with count := st.period, flag := true } else { st with count := st.count - 1 }) else st

/-- The watch's cycle. -/
def St.ages (st : St) : St :=
  if 250 < st.age + 1 then ({ st with age := st.age + 1 }).reset 2 else { st with age := st.age + 1 }

def St.runs (st : St) : St × Cy :=
  let r := ({ st with rst := 0 }).works
  let s := if r.1.rst = 0 then r.1.ticks.ages else r.1
  (s, { r.2 with out := s.out })

/-- One cycle's input. -/
structure In where
  reset : Bool
  volts : Int
  port : Int

def St.supply (st : St) (i : In) : St :=
  if i.volts < 2700 then { st with inp := i.port, down := true } else if 3000 ≤ i.volts then { st with inp := i.port, down := false } else { st with inp := i.port }

def St.step (st : St) (i : In) : St × Cy :=
  if (st.supply i).down = true then ((st.supply i).reset 6, ⟨0, 0, 0, 0⟩)
  else if i.reset = true then ((st.supply i).reset 5, ⟨0, 0, 0, 0⟩)
  else if 0 < (st.supply i).left then
    (if (st.supply i).left - 1 = 0 then ({ st.supply i with left := (st.supply i).left - 1 }).boot else { st.supply i with left := (st.supply i).left - 1 }, ⟨0, 0, 0, 0⟩)
  else if (st.supply i).bank < 0 then (st.supply i, ⟨1, 0, 0, 0⟩)
  else (st.supply i).runs

/-- What holds of every board at every time. -/
structure Inv (st : St) : Prop where
  mem : ∀ i, 0 ≤ st.mem i ∧ st.mem i ≤ 255
  b0 : ∀ i, 0 ≤ st.b0 i ∧ st.b0 i ≤ 255
  b1 : ∀ i, 0 ≤ st.b1 i ∧ st.b1 i ≤ 255
  bank : -1 ≤ st.bank ∧ st.bank ≤ 1
  cause : 0 ≤ st.cause ∧ st.cause ≤ 6
  left : 0 ≤ st.left ∧ st.left ≤ 4
  a : 0 ≤ st.a ∧ st.a ≤ 255
  x : 0 ≤ st.x ∧ st.x ≤ 255
  pc : 0 ≤ st.pc ∧ st.pc ≤ 255
  op : 0 ≤ st.op ∧ st.op ≤ 255
  opd : 0 ≤ st.opd ∧ st.opd ≤ 255
  phase : 0 ≤ st.phase ∧ st.phase ≤ 3
  period : 0 ≤ st.period ∧ st.period ≤ 255
  count : 0 ≤ st.count ∧ st.count ≤ 255
  cnt : 0 < st.period → 1 ≤ st.count
  age : 0 ≤ st.age ∧ st.age ≤ 251
  window : 0 ≤ st.window ∧ st.window ≤ 200
  out : 0 ≤ st.out ∧ st.out ≤ 255
  inp : 0 ≤ st.inp ∧ st.inp ≤ 255
  place : 0 ≤ st.place ∧ st.place ≤ 63
  ph2 : st.phase = 2 → 2 ≤ st.op ∧ st.op ≤ 10
  aged : st.left = 0 → st.age ≤ 250

theorem andN_bounds (a b : Int) (_h1 : 0 ≤ a) (_h2 : a ≤ 255) (h3 : 0 ≤ b) (h4 : b ≤ 255) : 0 ≤ andN a b ∧ andN a b ≤ 255 := by
  have hx : a.toNat &&& b.toNat < 2 ^ 8 := Nat.and_lt_two_pow _ (by omega)
  unfold andN
  omega

theorem i64_and (a b : Int) (h1 : 0 ≤ a) (h2 : a ≤ 255) (h3 : 0 ≤ b) (h4 : b ≤ 255) : bits .and .i64 a b = andN a b := by
  obtain ⟨A, rfl⟩ := Int.eq_ofNat_of_zero_le h1
  obtain ⟨B, rfl⟩ := Int.eq_ofNat_of_zero_le h3
  have ha : (BitVec.ofInt 64 (A : Int)).toNat = A := by rw [BitVec.ofInt_natCast, BitVec.toNat_ofNat]; exact Nat.mod_eq_of_lt (by omega)
  have hb : (BitVec.ofInt 64 (B : Int)).toNat = B := by rw [BitVec.ofInt_natCast, BitVec.toNat_ofNat]; exact Nat.mod_eq_of_lt (by omega)
  have hx : A &&& B < 2 ^ 8 := Nat.and_lt_two_pow _ (by omega)
  show IntKind.i64.wrap ((BitVec.ofInt 64 (A : Int) &&& BitVec.ofInt 64 (B : Int)).toNat : Int) = _
  rw [BitVec.toNat_and, ha, hb]
  unfold andN
  rw [Int.toNat_natCast, Int.toNat_natCast]
  rw [IntKind.wrap_i64]
  omega

theorem orN_bounds (a b : Int) (h1 : 0 ≤ a) (h2 : a ≤ 255) (h3 : 0 ≤ b) (h4 : b ≤ 255) : 0 ≤ orN a b ∧ orN a b ≤ 255 := by
  have hx : a.toNat ||| b.toNat < 2 ^ 8 := Nat.or_lt_two_pow (by omega) (by omega)
  unfold orN
  omega

theorem i64_or (a b : Int) (h1 : 0 ≤ a) (h2 : a ≤ 255) (h3 : 0 ≤ b) (h4 : b ≤ 255) : bits .or .i64 a b = orN a b := by
  obtain ⟨A, rfl⟩ := Int.eq_ofNat_of_zero_le h1
  obtain ⟨B, rfl⟩ := Int.eq_ofNat_of_zero_le h3
  have ha : (BitVec.ofInt 64 (A : Int)).toNat = A := by rw [BitVec.ofInt_natCast, BitVec.toNat_ofNat]; exact Nat.mod_eq_of_lt (by omega)
  have hb : (BitVec.ofInt 64 (B : Int)).toNat = B := by rw [BitVec.ofInt_natCast, BitVec.toNat_ofNat]; exact Nat.mod_eq_of_lt (by omega)
  have hx : A ||| B < 2 ^ 8 := Nat.or_lt_two_pow (by omega) (by omega)
  show IntKind.i64.wrap ((BitVec.ofInt 64 (A : Int) ||| BitVec.ofInt 64 (B : Int)).toNat : Int) = _
  rw [BitVec.toNat_or, ha, hb]
  unfold orN
  rw [Int.toNat_natCast, Int.toNat_natCast]
  rw [IntKind.wrap_i64]
  omega

theorem xorN_bounds (a b : Int) (h1 : 0 ≤ a) (h2 : a ≤ 255) (h3 : 0 ≤ b) (h4 : b ≤ 255) : 0 ≤ xorN a b ∧ xorN a b ≤ 255 := by
  have hx : a.toNat ^^^ b.toNat < 2 ^ 8 := Nat.xor_lt_two_pow (by omega) (by omega)
  unfold xorN
  omega

theorem i64_xor (a b : Int) (h1 : 0 ≤ a) (h2 : a ≤ 255) (h3 : 0 ≤ b) (h4 : b ≤ 255) : bits .xor .i64 a b = xorN a b := by
  obtain ⟨A, rfl⟩ := Int.eq_ofNat_of_zero_le h1
  obtain ⟨B, rfl⟩ := Int.eq_ofNat_of_zero_le h3
  have ha : (BitVec.ofInt 64 (A : Int)).toNat = A := by rw [BitVec.ofInt_natCast, BitVec.toNat_ofNat]; exact Nat.mod_eq_of_lt (by omega)
  have hb : (BitVec.ofInt 64 (B : Int)).toNat = B := by rw [BitVec.ofInt_natCast, BitVec.toNat_ofNat]; exact Nat.mod_eq_of_lt (by omega)
  have hx : A ^^^ B < 2 ^ 8 := Nat.xor_lt_two_pow (by omega) (by omega)
  show IntKind.i64.wrap ((BitVec.ofInt 64 (A : Int) ^^^ BitVec.ofInt 64 (B : Int)).toNat : Int) = _
  rw [BitVec.toNat_xor, ha, hb]
  unfold xorN
  rw [Int.toNat_natCast, Int.toNat_natCast]
  rw [IntKind.wrap_i64]
  omega

end Go.Proofs.YtikdbpphbdbdnaaGreat

/- What holds of every board goes on holding, whatever a cycle does; no program is named here. -/
namespace Go.Proofs.YtikdbpphbdbdnaaGreat

theorem upd_bounds {f : Nat → Int} (h : ∀ i, 0 ≤ f i ∧ f i ≤ 255) (k : Nat) (v : Int) (hv : 0 ≤ v ∧ v ≤ 255) : ∀ i, 0 ≤ upd f k v i ∧ upd f k v i ≤ 255 := by
  intro i
  unfold upd
  split
  · exact hv
  · exact h i

theorem Inv.setA {st : St} (hi : Inv st) (n : Int) : Inv (st.setA n) := { hi with a := (by constructor <;> omega : 0 ≤ n % 256 ∧ n % 256 ≤ 255) }
theorem Inv.setX {st : St} (hi : Inv st) (n : Int) : Inv (st.setX n) := { hi with x := (by constructor <;> omega : 0 ≤ n % 256 ∧ n % 256 ≤ 255) }

theorem Inv.setStrikes {st : St} (hi : Inv st) (n : Int) : Inv (st.setStrikes n) := by
  unfold St.setStrikes
  split
  · exact { hi with }
  · exact { hi with }

theorem Inv.reset {st : St} (hi : Inv st) (c : Int) (h0 : 0 ≤ c) (h6 : c ≤ 6) : Inv (st.reset c) := by
  have h : Inv { st with cause := c, left := 4, rst := c } := { hi with cause := ⟨h0, h6⟩, left := (by decide : (0 : Int) ≤ 4 ∧ (4 : Int) ≤ 4), aged := fun h => absurd h (by decide : ¬ (4 : Int) = 0) }
  unfold St.reset
  split
  · exact h.setStrikes _
  · exact h

theorem Inv.keys {st : St} (hi : Inv st) (v : Int) : Inv (st.keys v) := by
  unfold St.keys
  split
  · split
    · exact Inv.reset (st := { st with key := (v == 150) }) { hi with } 3 (by decide) (by decide)
    · exact { hi with age := (by decide : (0 : Int) ≤ 0 ∧ (0 : Int) ≤ 251), aged := fun _ => (by decide : (0 : Int) ≤ 250) }
  · exact { hi with }

theorem Inv.setBank {st : St} (hi : Inv st) (k : Int) (f : Nat → Int) (hf : ∀ i, 0 ≤ f i ∧ f i ≤ 255) : Inv (st.setBank k f) := by
  unfold St.setBank
  split
  · exact { hi with b0 := hf }
  · exact { hi with b1 := hf }

theorem Inv.inBank {st : St} (hi : Inv st) (k : Int) (i : Nat) : 0 ≤ st.inBank k i ∧ st.inBank k i ≤ 255 := by
  unfold St.inBank
  split
  · exact hi.b0 i
  · exact hi.b1 i

theorem Inv.setPlace {st : St} (hi : Inv st) (n : Int) (h : 0 ≤ n ∧ n ≤ 63) : Inv { st with place := n } := { hi with place := h }

theorem Inv.updates {st : St} (hi : Inv st) (a v : Int) (hv : 0 ≤ v ∧ v ≤ 255) : Inv (st.updates a v) := by
  unfold St.updates
  split
  · split
    · exact (Inv.setBank (st := { st with opn := true }) { hi with } _ _ (fun _ => by decide)).setPlace 0 (by decide)
    · exact { hi with }
  · split
    · exact { hi with place := (by constructor <;> omega : 0 ≤ v % 64 ∧ v % 64 ≤ 63) }
    · split
      · split
        · exact (hi.setBank _ _ (upd_bounds (hi.inBank _) _ _ hv)).setPlace _ (by constructor <;> omega)
        · exact hi
      · split
        · split
          · exact hi.setStrikes 0
          · exact hi
        · exact hi

theorem Inv.write {st : St} (hi : Inv st) (a v : Int) (hv : 0 ≤ v ∧ v ≤ 255) : Inv (st.write a v) := by
  unfold St.write
  split
  · exact { hi with mem := upd_bounds hi.mem _ _ hv }
  split
  · exact { hi with period := hv, count := hv, cnt := fun h => (by exact h : 0 < v) }
  split
  · exact { hi with }
  split
  · exact hi.keys v
  split
  · split
    · rename_i h
      exact { hi with window := ⟨hv.1, h.2⟩ }
    · exact hi
  split
  · exact { hi with out := hv }
  split
  · exact hi.updates a v hv
  · exact hi

/-- What is read is a byte. -/
theorem read_bounds {st : St} (hi : Inv st) (hb : 0 ≤ st.bank) (a : Int) : 0 ≤ st.read a ∧ st.read a ≤ 255 := by
  have h1 := hi.mem a.toNat
  have h2 := hi.b0 (a - 128).toNat
  have h3 := hi.b1 (a - 128).toNat
  have h4 := hi.b0 st.place.toNat
  have h5 := hi.b1 st.place.toNat
  have h6 := hi.period
  have h7 := hi.count
  have h8 := hi.age
  have h9 := hi.window
  have h10 := hi.out
  have h11 := hi.inp
  have h12 := hi.place
  have h13 := hi.cause
  have h14 := hi.bank
  unfold St.read St.inBank flagN
  repeat' split
  all_goals omega

theorem Inv.alone {st : St} (hi : Inv st) (op : Int) : Inv (st.alone op) := by
  unfold St.alone
  split
  · exact hi.setX _
  split
  · exact hi.setA _
  split
  · exact hi.setX _
  split
  · exact hi.setX _
  split
  · exact { hi with phase := (by decide : (0 : Int) ≤ 3 ∧ (3 : Int) ≤ 3), ph2 := fun h => absurd h (by decide : ¬ (3 : Int) = 2) }
  · exact hi

theorem Inv.jumps {st : St} (hi : Inv st) (op n : Int) (hn : 0 ≤ n ∧ n ≤ 255) : Inv (st.jumps op n) := by
  unfold St.jumps
  split
  · exact hi.setA _
  split
  · exact { hi with pc := hn }
  · exact hi

theorem Inv.setCarry {st : St} (hi : Inv st) (c : Bool) : Inv { st with carry := c } := { hi with }

theorem Inv.takes {st : St} (hi : Inv st) (op n : Int) : Inv (st.takes op n) := by
  unfold St.takes
  split
  · exact (hi.setCarry _).setA _
  split
  · exact (hi.setCarry _).setA _
  split
  · exact hi.setA _
  split
  · exact hi.setA _
  split
  · exact hi.setA _
  · exact hi.setA _

theorem Inv.asks {st : St} (hi : Inv st) (op at_ : Int) : Inv (st.asks op at_).1 := by
  unfold St.asks
  split
  · exact hi.write _ _ hi.a
  · exact hi.takes _ _

theorem next_pc (st : St) (k : Int) : (st.next k).1 = { st with pc := (st.pc + 1) % 256 } := rfl

theorem Inv.next {st : St} (hi : Inv st) (k : Int) : Inv (st.next k).1 := { hi with pc := (by constructor <;> omega : 0 ≤ (st.pc + 1) % 256 ∧ (st.pc + 1) % 256 ≤ 255) }

theorem opLen_three {op : Int} (h : opLen op = 3) : 2 ≤ op ∧ op ≤ 10 := by
  unfold opLen at h
  split at h
  · omega
  split at h
  · omega
  split at h
  · assumption
  · omega

theorem Inv.works {st : St} (hi : Inv st) (hb : 0 ≤ st.bank) : Inv st.works.1 := by
  have hn := hi.next 4
  have hm := hi.next 3
  have hr := read_bounds hi hb st.pc
  have h0 : Inv { st with phase := 0 } := { hi with phase := (by decide : (0 : Int) ≤ 0 ∧ (0 : Int) ≤ 3), ph2 := fun h => absurd h (by decide : ¬ (0 : Int) = 2) }
  unfold St.works
  split
  · exact hi
  split
  · show Inv (if opLen st.op = 3 then _ else _)
    split
    · rename_i h3
      exact { hn with phase := (by decide : (0 : Int) ≤ 2 ∧ (2 : Int) ≤ 3), opd := hr, ph2 := fun _ => opLen_three h3 }
    · exact Inv.jumps (st := { (st.next 4).1 with phase := 0 }) { hn with phase := (by decide : (0 : Int) ≤ 0 ∧ (0 : Int) ≤ 3), ph2 := fun h => absurd h (by decide : ¬ (0 : Int) = 2) } _ _ hr
  split
  · exact h0.asks _ _
  · have hB : Inv { (st.next 3).1 with phase := 0, op := (st.next 3).2.data } := { hm with phase := (by decide : (0 : Int) ≤ 0 ∧ (0 : Int) ≤ 3), op := hr, ph2 := fun h => absurd h (by decide : ¬ (0 : Int) = 2) }
    show Inv (if opLen (st.next 3).2.data = 0 then _ else if opLen (st.next 3).2.data = 1 then _ else _)
    split
    · exact hB.reset 4 (by decide) (by decide)
    split
    · exact hB.alone _
    · exact { hm with phase := (by decide : (0 : Int) ≤ 1 ∧ (1 : Int) ≤ 3), op := hr, ph2 := fun h => absurd h (by decide : ¬ (1 : Int) = 2) }

theorem Inv.ticks {st : St} (hi : Inv st) : Inv st.ticks := by
  have h1 := hi.count
  have h2 := hi.period
  have h3 := hi.cnt
  unfold St.ticks
  split
  · rename_i hp
    split
    · exact { hi with count := h2, cnt := fun _ => (by omega : 1 ≤ st.period) }
    · exact { hi with count := (by have := h3 hp; constructor <;> omega : 0 ≤ st.count - 1 ∧ st.count - 1 ≤ 255), cnt := fun h => (by have := h3 hp; omega : 1 ≤ st.count - 1) }
  · exact hi

theorem reset_rst (st : St) (c : Int) : (st.reset c).rst = c ∧ (st.reset c).left = 4 ∧ (st.reset c).bank = st.bank := by
  unfold St.reset St.setStrikes
  split
  · split <;> exact ⟨rfl, rfl, rfl⟩
  · exact ⟨rfl, rfl, rfl⟩

theorem reset_out (st : St) (c : Int) : (st.reset c).out = st.out := by
  unfold St.reset St.setStrikes
  split
  · split <;> rfl
  · rfl

theorem keys_calm (st : St) (v : Int) : (st.keys v).rst = 0 → (st.keys v).left = st.left := by
  unfold St.keys
  split
  · split
    · rw [(reset_rst _ 3).1]; intro x; cases x
    · intro _; rfl
  · intro _; rfl

theorem updates_calm (st : St) (a v : Int) : (st.updates a v).rst = st.rst ∧ (st.updates a v).left = st.left := by
  unfold St.updates St.setBank St.setStrikes
  repeat' split
  all_goals exact ⟨rfl, rfl⟩

theorem write_calm (st : St) (a v : Int) : (st.write a v).rst = 0 → (st.write a v).left = st.left := by
  unfold St.write
  split
  · intro _; rfl
  split
  · intro _; rfl
  split
  · intro _; rfl
  split
  · exact keys_calm st v
  split
  · split <;> (intro _; rfl)
  split
  · intro _; rfl
  split
  · intro _; exact (updates_calm st a v).2
  · intro _; rfl

theorem takes_calm (st : St) (op n : Int) : (st.takes op n).left = st.left := by
  unfold St.takes
  repeat' split
  all_goals rfl

theorem asks_calm (st : St) (op at_ : Int) : (st.asks op at_).1.rst = 0 → (st.asks op at_).1.left = st.left := by
  unfold St.asks
  split
  · exact write_calm st _ _
  · intro _; exact takes_calm st _ _

theorem alone_calm (st : St) (op : Int) : (st.alone op).left = st.left := by
  unfold St.alone
  repeat' split
  all_goals rfl

theorem jumps_calm (st : St) (op n : Int) : (st.jumps op n).left = st.left := by
  unfold St.jumps
  repeat' split
  all_goals rfl

theorem works_calm (st : St) : st.works.1.rst = 0 → st.works.1.left = st.left := by
  unfold St.works
  split
  · intro _; rfl
  split
  · show (if opLen st.op = 3 then _ else _ : St).rst = 0 → (if opLen st.op = 3 then _ else _ : St).left = st.left
    split
    · intro _; rfl
    · intro _; exact jumps_calm _ _ _
  split
  · exact asks_calm { st with phase := 0 } _ _
  · show (if opLen (st.next 3).2.data = 0 then _ else if opLen (st.next 3).2.data = 1 then _ else _ : St).rst = 0 → (if opLen (st.next 3).2.data = 0 then _ else if opLen (st.next 3).2.data = 1 then _ else _ : St).left = st.left
    split
    · rw [(reset_rst _ 4).1]; intro x; cases x
    split
    · intro _; exact alone_calm _ _
    · intro _; rfl

/-! The bank that was chosen stays while the processor works. -/
theorem setStrikes_bank (st : St) (n : Int) : (st.setStrikes n).bank = st.bank := by unfold St.setStrikes; split <;> rfl
theorem setBank_bank (st : St) (k : Int) (f : Nat → Int) : (st.setBank k f).bank = st.bank := by unfold St.setBank; split <;> rfl
theorem keys_bank (st : St) (v : Int) : (st.keys v).bank = st.bank := by
  unfold St.keys
  split
  · split
    · exact (reset_rst _ 3).2.2
    · rfl
  · rfl
theorem updates_bank (st : St) (a v : Int) : (st.updates a v).bank = st.bank := by
  unfold St.updates St.setBank St.setStrikes
  repeat' split
  all_goals rfl
theorem write_bank (st : St) (a v : Int) : (st.write a v).bank = st.bank := by
  unfold St.write
  repeat' split
  all_goals first | rfl | exact keys_bank st v | exact updates_bank st a v
theorem takes_bank (st : St) (op n : Int) : (st.takes op n).bank = st.bank := by
  unfold St.takes
  repeat' split
  all_goals rfl
theorem asks_bank (st : St) (op at_ : Int) : (st.asks op at_).1.bank = st.bank := by
  unfold St.asks
  split
  · exact write_bank st _ _
  · exact takes_bank st _ _
theorem alone_bank (st : St) (op : Int) : (st.alone op).bank = st.bank := by
  unfold St.alone
  repeat' split
  all_goals rfl
theorem jumps_bank (st : St) (op n : Int) : (st.jumps op n).bank = st.bank := by
  unfold St.jumps
  repeat' split
  all_goals rfl
theorem works_bank (st : St) : st.works.1.bank = st.bank := by
  unfold St.works
  split
  · rfl
  split
  · show (if opLen st.op = 3 then _ else _ : St).bank = st.bank
    split
    · rfl
    · exact jumps_bank _ _ _
  split
  · exact asks_bank { st with phase := 0 } _ _
  · show (if opLen (st.next 3).2.data = 0 then _ else if opLen (st.next 3).2.data = 1 then _ else _ : St).bank = st.bank
    split
    · exact (reset_rst _ 4).2.2
    split
    · exact alone_bank _ _
    · rfl

theorem ticks_other (st : St) : st.ticks.left = st.left ∧ st.ticks.bank = st.bank ∧ st.ticks.age = st.age := by
  unfold St.ticks
  repeat' split
  all_goals exact ⟨rfl, rfl, rfl⟩

theorem Inv.ages {st : St} (hi : Inv st) (hl : st.left = 0) : Inv st.ages := by
  have h1 := hi.age
  have h2 := hi.aged hl
  unfold St.ages
  split
  · exact Inv.reset (st := { st with age := st.age + 1, left := 4 }) { hi with age := (by constructor <;> omega : 0 ≤ st.age + 1 ∧ st.age + 1 ≤ 251), left := (by decide : (0 : Int) ≤ 4 ∧ (4 : Int) ≤ 4), aged := fun h => absurd h (by decide : ¬ (4 : Int) = 0) } 2 (by decide) (by decide)
  · exact { hi with age := (by constructor <;> omega : 0 ≤ st.age + 1 ∧ st.age + 1 ≤ 251), aged := fun _ => (by omega : st.age + 1 ≤ 250) }

theorem Inv.runs {st : St} (hi : Inv st) (hb : 0 ≤ st.bank) (hl : st.left = 0) : Inv st.runs.1 := by
  have h0 : Inv { st with rst := 0 } := { hi with }
  have h1 := h0.works hb
  show Inv (if ({ st with rst := 0 } : St).works.1.rst = 0 then _ else _)
  split
  · rename_i h
    have h2 := works_calm { st with rst := 0 } h
    exact h1.ticks.ages (by rw [(ticks_other _).1, h2]; exact hl)
  · exact h1

theorem bankS_size (f : Nat → Int) : (bankS f).size = 64 := by
  show (List.toArray _).size = 64
  rw [List.size_toArray]
  simp only [List.length_map, List.length_range]

theorem pickB_range (a b : ByteArray) (x y : Bool) : -1 ≤ pickB a b x y ∧ pickB a b x y ≤ 1 := by
  have := grtB_cases a b
  cases x <;> cases y <;> simp [pickB] <;> omega

theorem chooseB_range (a b : ByteArray) (m n : Int) : -1 ≤ chooseB a b m n ∧ chooseB a b m n ≤ 1 := by
  unfold chooseB
  split <;> exact pickB_range _ _ _ _

theorem Inv.boot {st : St} (hi : Inv { st with left := 4 }) (hl : 0 ≤ st.left ∧ st.left ≤ 4) : Inv st.boot := by
  have hc := chooseB_range (bankS st.b0) (bankS st.b1) st.s0 st.s1
  have z : (0 : Int) ≤ 0 ∧ (0 : Int) ≤ 255 := by decide
  unfold St.boot
  split
  all_goals exact { hi with left := hl, bank := hc, a := z, x := z, pc := (by decide : (0 : Int) ≤ 130 ∧ (130 : Int) ≤ 255), phase := (by decide : (0 : Int) ≤ 0 ∧ (0 : Int) ≤ 3), period := z, count := z, cnt := fun h => absurd h (by decide : ¬ (0 : Int) < 0), age := (by decide : (0 : Int) ≤ 0 ∧ (0 : Int) ≤ 251), window := (by decide : (0 : Int) ≤ 0 ∧ (0 : Int) ≤ 200), out := z, place := (by decide : (0 : Int) ≤ 0 ∧ (0 : Int) ≤ 63), ph2 := fun h => absurd h (by decide : ¬ (0 : Int) = 2), aged := fun _ => (by decide : (0 : Int) ≤ 250) }

theorem Inv.supply {st : St} (hi : Inv st) (i : In) (hp : 0 ≤ i.port ∧ i.port ≤ 255) : Inv (st.supply i) := by
  unfold St.supply
  split
  · exact { hi with inp := hp }
  split
  · exact { hi with inp := hp }
  · exact { hi with inp := hp }

theorem Inv.setLeft {st : St} (hi : Inv st) (n : Int) (h : 0 ≤ n ∧ n ≤ 4) (hn : ¬ n = 0) : Inv { st with left := n } := { hi with left := h, aged := fun x => absurd x hn }

theorem Inv.step {st : St} (hi : Inv st) (i : In) (hp : 0 ≤ i.port ∧ i.port ≤ 255) : Inv (st.step i).1 := by
  have hs := hi.supply i hp
  have hl := hs.left
  unfold St.step
  split
  · exact hs.reset 6 (by decide) (by decide)
  split
  · exact hs.reset 5 (by decide) (by decide)
  split
  · rename_i h1 h2 h3
    show Inv (if (st.supply i).left - 1 = 0 then _ else _)
    split
    · rename_i h4
      have h5 : Inv { st.supply i with left := 4 } := hs.setLeft 4 (by decide) (by decide)
      exact Inv.boot (st := { st.supply i with left := (st.supply i).left - 1 }) h5 (by show 0 ≤ (st.supply i).left - 1 ∧ (st.supply i).left - 1 ≤ 4; constructor <;> omega)
    · rename_i h4
      exact hs.setLeft _ (by constructor <;> omega) h4
  split
  · exact hs
  · rename_i h1 h2 h3 h4
    exact hs.runs (by omega) (by omega)

end Go.Proofs.YtikdbpphbdbdnaaGreat
