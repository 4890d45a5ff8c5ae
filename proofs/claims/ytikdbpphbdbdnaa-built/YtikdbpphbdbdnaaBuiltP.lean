/- What Built asks of images, in plain mathematics. -/
import Derived.Test.YtikdbpphbdbdnaaKeep7
namespace Go.Proofs.Ytikdbpphbdbdnaa
open Go.RowKit
set_option linter.unusedVariables false

def sumTo (f : Nat → Int) : Nat → Int
  | 0 => 0
  | n + 1 => sumTo f n + f n

theorem bsum_map (f : Nat → Int) (hf : ∀ i, 0 ≤ f i ∧ f i ≤ 255) : ∀ n, ((bsum ((List.range n).map fun i => UInt8.ofNat (f i).toNat) : Nat) : Int) = sumTo f n
  | 0 => rfl
  | n + 1 => by
    rw [List.range_succ, List.map_append, bsum_append]
    have ih := bsum_map f hf n
    have hn := byte_of (f n) (hf n).1 (hf n).2
    simp only [List.map_cons, List.map_nil, bsum, Nat.add_zero]
    rw [Int.natCast_add, ih, hn]
    rfl

theorem sumTo_upd (f : Nat → Int) (k : Nat) (v : Int) : ∀ n, sumTo (upd f k v) n = sumTo f n + (if k < n then v - f k else 0)
  | 0 => by simp [sumTo]
  | n + 1 => by
    have ih := sumTo_upd f k v n
    simp only [sumTo]
    rw [ih]
    by_cases e : n = k
    · subst e
      rw [if_neg (by omega), if_pos (by omega)]
      simp only [upd, if_true]
      omega
    · have e2 : upd f k v n = f n := if_neg e
      rw [e2]
      by_cases h : k < n
      · rw [if_pos h, if_pos (by omega)]; omega
      · rw [if_neg h, if_neg (by omega)]; omega

theorem bankS_self (s : ByteArray) (h : s.size = 64) : bankS (byteAt s) = s := by
  apply bytes_ext
  have hl : s.data.toList.length = 64 := by simpa using h
  show ((List.range 64).map fun i => UInt8.ofNat (byteAt s i).toNat).toArray.toList = _
  apply List.ext_getElem
  · simp [hl]
  · intro i h1 h2
    have hi : i < 64 := by rw [hl] at h2; exact h2
    have hi' : i < s.data.size := by simpa using h2
    simp only [List.getElem_map, List.getElem_range]
    unfold byteAt
    rw [Int.toNat_natCast]
    simp [List.getD, Array.getElem?_eq_getElem hi']

theorem psum_bank (f : Nat → Int) (hf : ∀ i, 0 ≤ f i ∧ f i ≤ 255) : psum (bankS f) 64 = sumTo f 64 % 256 := by
  unfold psum
  have e : (bankS f).data.toList = (List.range 64).map fun i => UInt8.ofNat (f i).toNat := rfl
  rw [e, List.take_of_length_le (by simp), ← bsum_map f hf 64]
  omega

/-- With one byte another an image is none. -/
theorem spoil_bad (s : ByteArray) (h : vldB s = true) (k : Nat) (hk : k < 64) (c : Int) (c0 : 0 ≤ c) (c1 : c ≤ 255) (hc : ¬ c = byteAt s k) : vldB (spoilB s k c) = false := by
  have hs := vld_64 h
  have h1 := (of_decide_eq_true h).2.2
  rw [hs] at h1
  have e1 := psum_bank (byteAt s) (byteAt_bounds s)
  rw [bankS_self s hs, h1] at e1
  have e2 := psum_bank (upd (byteAt s) k c) (upd_bytes s k c c0 c1)
  rw [sumTo_upd, if_pos hk] at e2
  have hb := byteAt_bounds s k
  refine decide_eq_false fun x => ?_
  have h2 := x.2.2
  rw [x.1] at h2
  unfold spoilB at h2
  rw [e2] at h2
  omega

theorem imgQ_of (s : ByteArray) (n : Int) : imgQ s n = imageOf (codeB s) (pickQ n 256) := by
  have h1 := codeB_size s
  have h2 := pickQ_bounds n 256 (by omega)
  unfold imgQ buildS
  rw [if_neg (by omega), if_neg (by omega)]

theorem imageOf_data (s : ByteArray) (n : Int) : (imageOf s n).data.toList = 176 :: UInt8.ofNat n.toNat :: (s.data.toList ++ (List.replicate (61 - s.size) 0 ++ [UInt8.ofNat ((421 - psum (bodyOf s n) 63) % 256).toNat])) := by
  unfold imageOf
  rw [ByteArray.data_append, Array.toList_append]
  show (176 :: UInt8.ofNat n.toNat :: (s.data.toList ++ List.replicate (61 - s.size) 0)) ++ [UInt8.ofNat ((421 - psum (bodyOf s n) 63) % 256).toNat] = _
  simp

theorem image_valid (s : ByteArray) (n : Int) (h : s.size ≤ 61) : vldB (imageOf s n) = true := by
  refine decide_eq_true ⟨imageOf_size s n h, ?_, ?_⟩
  · rw [imageOf_data]; rfl
  · rw [imageOf_size s n h]
    have hb := bodyOf_size s n h
    have e : (imageOf s n).data.toList = (bodyOf s n).data.toList ++ [UInt8.ofNat ((421 - psum (bodyOf s n) 63) % 256).toNat] := by
      unfold imageOf
      rw [ByteArray.data_append, Array.toList_append]
      rfl
    have hl : (bodyOf s n).data.toList.length = 63 := by simpa using hb
    have hc := byte_of ((421 - psum (bodyOf s n) 63) % 256) (by omega) (by omega)
    have hp : psum (bodyOf s n) 63 = ((bsum (bodyOf s n).data.toList % 256 : Nat) : Int) := by
      unfold psum
      rw [List.take_of_length_le (by omega)]
    have e3 : psum (imageOf s n) 64 = ((bsum (imageOf s n).data.toList % 256 : Nat) : Int) := by
      unfold psum
      rw [List.take_of_length_le (by rw [e]; simp [hl])]
    rw [e3, e, bsum_append]
    simp only [bsum, Nat.add_zero]
    omega

theorem image_num (s : ByteArray) (n : Int) (h0 : 0 ≤ n) (h1 : n ≤ 255) : numB (imageOf s n) = n := by
  unfold numB
  rw [imageOf_data]
  exact byte_of n h0 h1

theorem image_code (s : ByteArray) (n : Int) (h : s.size ≤ 61) : (imageOf s n).extract 2 (2 + s.size) = s := by
  apply bytes_ext
  rw [ByteArray.data_extract, Array.toList_extract, imageOf_data]
  simp [List.extract]

theorem choose_asks (x y : ByteArray) (hx : vldB x = true) (hy : vldB y = true) (s0 s1 : Int) :
    chooseB x y s0 s1 = if (decide (s0 < 3) = decide (s1 < 3) ∧ numB x < numB y) ∨ (¬ decide (s0 < 3) = decide (s1 < 3) ∧ s1 < 3) then 1 else 0 := by
  unfold chooseB
  rw [fitB_vt hx, fitB_vt hy, hx, hy]
  by_cases h0 : s0 < 3 <;> by_cases h1 : s1 < 3 <;> simp [h0, h1, pickB, grtB]
  all_goals (split <;> simp_all)

theorem choose_bad (x y : ByteArray) (hx : vldB x = false) (hy : vldB y = true) (s0 s1 : Int) : chooseB x y s0 s1 = 1 := by
  unfold chooseB
  rw [fitB_vf hx, fitB_vt hy, hx, hy]
  by_cases h1 : s1 < 3 <;> simp [h1, pickB]

theorem choose_none (x : ByteArray) (hx : vldB x = false) (s0 s1 : Int) : chooseB x x s0 s1 = -1 := by
  unfold chooseB
  rw [fitB_vf hx, fitB_vf hx, hx]
  simp [pickB]

end Go.Proofs.Ytikdbpphbdbdnaa
