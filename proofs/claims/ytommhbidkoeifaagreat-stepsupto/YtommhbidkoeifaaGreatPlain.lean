/- The plain arithmetic of images: the sum of the bytes, what a valid image is, what is built. No program is named here. -/
import Derived.WalkKit
namespace Go.Proofs.YtommhbidkoeifaaGreat
open Go.RowKit

/-- The sum of all bytes. -/
def bsum : List UInt8 → Nat
  | [] => 0
  | c :: r => c.toNat + bsum r

theorem bsum_append (a b : List UInt8) : bsum (a ++ b) = bsum a + bsum b := by
  induction a with
  | nil => simp [bsum]
  | cons c r ih => simp [bsum, ih]; omega

/-- The sum of the first k bytes, modulo 256. -/
def psum (s : ByteArray) (k : Nat) : Int := ((bsum (s.data.toList.take k) % 256 : Nat) : Int)

theorem psum_zero (s : ByteArray) : psum s 0 = 0 := by simp [psum, bsum]

theorem psum_bounds (s : ByteArray) (k : Nat) : 0 ≤ psum s k ∧ psum s k ≤ 255 := by unfold psum; omega

theorem take_snoc (s : ByteArray) (k : Nat) (h : k < s.size) : s.data.toList.take (k + 1) = s.data.toList.take k ++ [s[k]] := by
  rw [List.take_succ_eq_append_getElem (by simpa using h)]; rfl

theorem psum_succ (s : ByteArray) (k : Nat) (h : k < s.size) : psum s (k + 1) = (psum s k + (s[k].toNat : Int)) % 256 := by
  unfold psum
  rw [take_snoc s k h, bsum_append]
  simp [bsum]

theorem psum_all (s : ByteArray) (k : Nat) (h : s.size ≤ k) : psum s k = psum s s.size := by
  unfold psum
  rw [List.take_of_length_le (by simpa using h), List.take_of_length_le (by simp)]

theorem sum_round (a : Int) (c : UInt8) (h : 0 ≤ a ∧ a ≤ 255) : (wrap64 (a + wrap64 (c.toNat : Int))).tmod 256 = (a + (c.toNat : Int)) % 256 := by
  have hc : c.toNat < 256 := c.toNat_lt
  have e1 : wrap64 (c.toNat : Int) = c.toNat := by unfold wrap64; omega
  rw [e1]
  have e2 : wrap64 (a + (c.toNat : Int)) = a + c.toNat := by unfold wrap64; omega
  rw [e2, Int.tmod_eq_emod_of_nonneg (by omega)]

/-- What a valid image is. -/
def vldB (s : ByteArray) : Bool := decide (s.size = 64 ∧ ((s.data.toList.getD 0 0).toNat : Int) = 176 ∧ psum s s.size = 165)

theorem head_getD (s : ByteArray) (k : Nat) (h : k < s.size) : s.data.toList.getD k 0 = s[k] := by
  have hk : k < s.data.toList.length := by simpa using h
  simp [List.getD, List.getElem?_eq_getElem hk]
  rfl

theorem vld_size {s : ByteArray} (h : ¬ s.size = 64) : vldB s = false := by simp [vldB, h]

theorem vld_mark {s : ByteArray} (h : 0 < s.size) (hm : ¬ (s[0].toNat : Int) = 176) : vldB s = false := by
  unfold vldB
  rw [head_getD s 0 h]
  exact decide_eq_false (fun x => hm x.2.1)

theorem vld_sum {s : ByteArray} (h64 : s.size = 64) (h : 0 < s.size) (hm : (s[0].toNat : Int) = 176) : vldB s = (psum s 64 == 165) := by
  unfold vldB
  rw [head_getD s 0 h, h64]
  simp [hm]
  rfl

theorem vld_64 {s : ByteArray} (h : vldB s = true) : s.size = 64 := (of_decide_eq_true h).1

/-- May an image be chosen? -/
def fitB (s : ByteArray) (n : Int) : Bool := vldB s && decide (n < 3)

/-- An image's number. -/
def numB (s : ByteArray) : Int := ((s.data.toList.getD 1 0).toNat : Int)

/-- Which of two has the greater number. -/
def grtB (a b : ByteArray) : Int := if numB a < numB b then 1 else 0

/-- The choice among those that may be. -/
def pickB (a b : ByteArray) (x y : Bool) : Int :=
  if x = true then (if y = true then grtB a b else 0) else (if y = true then 1 else -1)

theorem grtB_cases (a b : ByteArray) : grtB a b = 0 ∨ grtB a b = 1 := by unfold grtB; split <;> simp

/-- The choice. -/
def chooseB (a b : ByteArray) (m n : Int) : Int :=
  if pickB a b (fitB a m) (fitB b n) = -1 then pickB a b (vldB a) (vldB b) else pickB a b (fitB a m) (fitB b n)

theorem numB_eq (s : ByteArray) (h : 1 < s.size) : numB s = (s[1].toNat : Int) := by unfold numB; rw [head_getD s 1 h]

theorem grtB_yes (a b : ByteArray) (ha : 1 < a.size) (hb : 1 < b.size) (h : (a[1].toNat : Int) < (b[1].toNat : Int)) : grtB a b = 1 := by
  unfold grtB; rw [numB_eq a ha, numB_eq b hb, if_pos h]

theorem grtB_no (a b : ByteArray) (ha : 1 < a.size) (hb : 1 < b.size) (h : ¬ (a[1].toNat : Int) < (b[1].toNat : Int)) : grtB a b = 0 := by
  unfold grtB; rw [numB_eq a ha, numB_eq b hb, if_neg h]

theorem pickB_tt (a b : ByteArray) : pickB a b true true = grtB a b := rfl
theorem pickB_tf (a b : ByteArray) : pickB a b true false = 0 := rfl
theorem pickB_ft (a b : ByteArray) : pickB a b false true = 1 := rfl
theorem pickB_ff (a b : ByteArray) : pickB a b false false = -1 := rfl

theorem fitB_zero (s : ByteArray) : fitB s 0 = vldB s := by simp [fitB]

theorem fitB_vld {s : ByteArray} {n : Int} (h : fitB s n = true) : vldB s = true := by
  simp only [fitB, Bool.and_eq_true] at h; exact h.1

/-- Do the strikes become 0 first? -/
def anewB (a b : ByteArray) (m n : Int) : Bool := decide (pickB a b (fitB a m) (fitB b n) = -1) && (vldB a || vldB b)

theorem pickB_neg {a b : ByteArray} {x y : Bool} (h : ¬ pickB a b x y = -1) : 0 ≤ pickB a b x y := by
  have := grtB_cases a b
  cases x <;> cases y <;> simp [pickB] at h ⊢ <;> omega

theorem chooseB_old {a b : ByteArray} {m n : Int} (h : ¬ pickB a b (fitB a m) (fitB b n) = -1) : chooseB a b m n = pickB a b (fitB a m) (fitB b n) ∧ anewB a b m n = false := by
  simp [chooseB, anewB, h]

theorem chooseB_none {a b : ByteArray} {m n : Int} (ha : vldB a = false) (hb : vldB b = false) : pickB a b (fitB a m) (fitB b n) = -1 ∧ chooseB a b m n = -1 ∧ anewB a b m n = false := by
  simp [chooseB, anewB, fitB, ha, hb, pickB]

theorem chooseB_new {a b : ByteArray} {m n : Int} (h : pickB a b (fitB a m) (fitB b n) = -1) (hv : (vldB a || vldB b) = true) : chooseB a b m n = pickB a b (vldB a) (vldB b) ∧ anewB a b m n = true := by
  simp only [chooseB, anewB, h, if_true, hv, decide_true, Bool.and_self, and_self]

theorem fitB_vt {s : ByteArray} (h : vldB s = true) (n : Int) : fitB s n = decide (n < 3) := by simp [fitB, h]
theorem fitB_vf {s : ByteArray} (h : vldB s = false) (n : Int) : fitB s n = false := by simp [fitB, h]

/-- The text of one byte. -/
def one (n : Int) : ByteArray := ⟨#[UInt8.ofNat n.toNat]⟩

/-- The beginning of an image: the mark, the number, the program, k bytes 0. -/
def padded (n : Int) (s : ByteArray) (k : Nat) : ByteArray := ⟨(176 :: UInt8.ofNat n.toNat :: (s.data.toList ++ List.replicate k 0)).toArray⟩

theorem one_size (n : Int) : (one n).size = 1 := rfl

theorem padded_size (n : Int) (s : ByteArray) (k : Nat) : (padded n s k).size = s.size + k + 2 := by
  show (List.toArray _).size = s.data.size + k + 2
  rw [List.size_toArray]
  simp only [List.length_cons, List.length_append, List.length_replicate, Array.length_toList]

theorem bytes_ext {a b : ByteArray} (h : a.data.toList = b.data.toList) : a = b := by
  cases a; cases b; simp only [ByteArray.mk.injEq]; exact Array.toList_inj.1 h

theorem padded_start (n : Int) (s : ByteArray) : (⟨#[176]⟩ : ByteArray) ++ one n ++ s = padded n s 0 := by
  apply bytes_ext
  simp only [ByteArray.data_append, Array.toList_append, one, padded, List.replicate_zero, List.append_nil]
  rfl

theorem padded_more (n : Int) (s : ByteArray) (k : Nat) : padded n s k ++ (⟨#[0]⟩ : ByteArray) = padded n s (k + 1) := by
  apply bytes_ext
  simp only [ByteArray.data_append, Array.toList_append, padded, List.replicate_succ', ← List.append_assoc]
  rfl

/-- All of an image but its last byte. -/
def bodyOf (s : ByteArray) (n : Int) : ByteArray := padded n s (61 - s.size)

/-- The image of a program and a number. -/
def imageOf (s : ByteArray) (n : Int) : ByteArray := bodyOf s n ++ one ((421 - psum (bodyOf s n) 63) % 256)

theorem bodyOf_size (s : ByteArray) (n : Int) (h : s.size ≤ 61) : (bodyOf s n).size = 63 := by unfold bodyOf; rw [padded_size]; omega

theorem imageOf_size (s : ByteArray) (n : Int) (h : s.size ≤ 61) : (imageOf s n).size = 64 := by
  unfold imageOf; rw [ByteArray.size_append, bodyOf_size s n h]; rfl

theorem padded_last (s : ByteArray) (n : Int) (h : s.size ≤ 61) : padded n s (62 - s.size) = bodyOf s n ++ (⟨#[0]⟩ : ByteArray) := by
  unfold bodyOf
  rw [padded_more]
  congr 1
  omega

theorem psum_last (a : ByteArray) (h : a.size = 63) : psum (a ++ (⟨#[0]⟩ : ByteArray)) 64 = psum a 63 := by
  unfold psum
  have h1 : (a ++ (⟨#[0]⟩ : ByteArray)).data.toList = a.data.toList ++ [0] := by rw [ByteArray.data_append, Array.toList_append]
  have hl : a.data.toList.length = 63 := by simpa using h
  rw [h1, List.take_of_length_le (by simp [hl]), List.take_of_length_le (by omega), bsum_append]
  rfl

theorem byte_of (n : Int) (h0 : 0 ≤ n) (h1 : n ≤ 255) : ((UInt8.ofNat n.toNat).toNat : Int) = n := by
  rw [UInt8.toNat_ofNat']
  omega

/-- What Build gives: the text and the error. -/
def buildS (s : ByteArray) (n : Int) : ByteArray := if 61 < s.size then ByteArray.empty else if n < 0 ∨ 255 < n then ByteArray.empty else imageOf s n
def buildE (s : ByteArray) (n : Int) : Int := if 61 < s.size then 2 else if n < 0 ∨ 255 < n then 3 else 0

end Go.Proofs.YtommhbidkoeifaaGreat
