/- What the keeps share: a text with one byte another; a board with a bank that may be spoilt. -/
import Derived.Test.YtikdbpphbdbdnaaKa
import Derived.Laws.IdiomStrings
namespace Go.Proofs.Ytikdbpphbdbdnaa
open Go.RowKit
set_option linter.unusedVariables false

/-- The bytes of a text, laid anew. -/
theorem bytes_new (s : ByteArray) (w : World) (hs : s.size = 64) : ∃ (cap : Nat) (o : Obj), (convert 9 30 (.string s)).run Try.prog w = .ok (.slice (some ⟨w.heap.size, 0, none⟩) 64 cap) (w.drew.alloc o) ∧ Raw w.heap.size 64 (fun i => .int .u8 (byteAt s i)) (w.drew.alloc o) := by
  have h := run_bytes_of_string (P := Try.prog) w 9 30 5 s Try.underlying9 Try.underlying30 Try.underlying5
  rw [hs] at h
  refine ⟨_, _, h, fun i hi => ?_⟩
  have hsd : s.data.size = 64 := hs
  generalize grownCap w 64 0 5 = cap
  have hz : (bytesRow s cap).size = 64 + (cap - 64) := by unfold bytesRow; simp [hs, hsd]
  generalize hN : (bytesRow s cap).size = N at hz
  have g0 : (w.drew.alloc (.cells (bytesRow s cap) 5 (N, N + 1))).heap[w.heap.size]? = some (.cells (bytesRow s cap) 5 (N, N + 1)) := by
    show (w.heap.push _)[w.heap.size]? = _
    simp
  refine ⟨?_, ?_⟩
  · simp only [World.cell?, g0]
    rw [if_neg (by simp)]
    have hi' : i < s.data.size := by omega
    have e : (bytesRow s cap)[i]? = (s.data.map (fun b => Value.int .u8 b.toNat))[i]? := by
      unfold bytesRow
      rw [Array.getElem?_append_left (by simp; omega)]
    rw [e]
    unfold byteAt
    simp [Array.getElem?_map, Array.getElem?_eq_getElem hi', List.getD]
  · simp only [World.frozen?, g0]
    simp
    omega

/-- A text of 64 bytes with one byte another. -/
def spoilB (s : ByteArray) (k : Nat) (v : Int) : ByteArray := bankS (upd (byteAt s) k v)

theorem bankS_len (f : Nat → Int) : (bankS f).size = 64 := by
  show (((List.range 64).map fun i => UInt8.ofNat (f i).toNat).toArray).size = 64
  simp

theorem upd_bytes (s : ByteArray) (k : Nat) (v : Int) (h0 : 0 ≤ v) (h1 : v ≤ 255) (i : Nat) : 0 ≤ upd (byteAt s) k v i ∧ upd (byteAt s) k v i ≤ 255 := by
  unfold upd
  split
  · exact ⟨h0, h1⟩
  · exact byteAt_bounds s i

theorem raw_spoil {s : ByteArray} {b k : Nat} {w : World} (h : Raw b 64 (fun i => .int .u8 (byteAt s i)) w) (hk : k < 64) (v : Int) : Raw b 64 (fun i => .int .u8 (upd (byteAt s) k v i)) (w.setCell ⟨b, k, none⟩ (.int .u8 v)) :=
  h.set hk _ fun i hi => by
    unfold upd
    by_cases e : i = k
    · rw [if_pos e, if_pos e]
    · rw [if_neg e, if_neg e]

set_option maxRecDepth 100000 in
set_option maxHeartbeats 1000000 in
theorem board_spoilt {B : PB} (hB : PBok B) (a b : ByteArray) (m n s : Int) (w : World) (ha : a.size ≤ maxLen) (hb : b.size ≤ maxLen) (m0 : -9223372036854775808 ≤ m) (m1 : m ≤ 9223372036854775807) (n0 : -9223372036854775808 ≤ n) (n1 : n ≤ 9223372036854775807) (s0 : 0 ≤ s) (s1 : s < 64) :
    Calls Try.prog 14 #[.string a, .string b, .int .i64 m, .int .i64 n, .int .i64 s] w fun e w' => ∃ (l : B.Lt) (x y : ByteArray), e = .returned (.pointer (some ⟨B.g l, 0, none⟩)) ∧ B.rep 0 l (newSt x y) w' ∧ Below w.heap.size w w' ∧ ∀ k, B.own l k → w.heap.size ≤ k := by
  have HC : Hid (∀ s w, s.size ≤ maxLen → Calls Try.prog 11 #[.string s] w fun e w' => e = .returned (.string (codeB s)) ∧ w' = w) := fun s w h => qcode_any s w h
  have HP1 : Hid (∀ w, Calls Try.prog 9 #[.int .i64 m, .int .i64 256] w fun e w' => e = .returned (.int .i64 (pickQ m 256)) ∧ w' = w) := fun w => qpick_any m 256 w m0 m1 (by omega) (by omega)
  have HP2 : Hid (∀ w, Calls Try.prog 9 #[.int .i64 n, .int .i64 256] w fun e w' => e = .returned (.int .i64 (pickQ n 256)) ∧ w' = w) := fun w => qpick_any n 256 w n0 n1 (by omega) (by omega)
  obtain ⟨k, rfl⟩ := Int.eq_ofNat_of_zero_le s0
  have hk : k < 64 := by omega
  have HN : Hid (∀ (y : ByteArray) w, y.size = 64 → Calls Try.prog 21 #[.string (imgQ a m), .string y] w fun e w' => ∃ l : B.Lt, e = .returned (.tuple #[.pointer (some ⟨B.g l, 0, none⟩), .int .i64 0]) ∧ B.rep 0 l (newSt (imgQ a m) y) w' ∧ Below w.heap.size w w' ∧ ∀ k, B.own l k → w.heap.size ≤ k) := fun y w hy => hB.new_ok _ _ w (imgQ_s a m) hy
  have HA : Hid _ := ha
  have HBs : Hid _ := hb
  have z1 := imgQ_s a m
  have z2 := imgQ_s b n
  clear ha hb m0 m1 n0 n1
  go_enter Try.func14, Try.ntmps14
  go_wp2_with fail
  refine Calls.mono (HC.out a _ HA.out) ?_
  rintro e v1 ⟨rfl, hv⟩
  obtain rfl := hv.symm
  go_wp2_with fail
  refine Calls.mono (HP1.out _) ?_
  rintro e v3 ⟨rfl, hv⟩
  obtain rfl := hv.symm
  go_wp2_with fail
  refine Calls.mono (imgQ_build a m _) ?_
  rintro e w1 ⟨rfl, b1⟩
  go_wp2_with fail
  refine Calls.mono (HC.out b _ HBs.out) ?_
  rintro e v2 ⟨rfl, hv⟩
  obtain rfl := hv.symm
  go_wp2_with fail
  refine Calls.mono (HP2.out _) ?_
  rintro e v4 ⟨rfl, hv⟩
  obtain rfl := hv.symm
  go_wp2_with fail
  refine Calls.mono (imgQ_build b n _) ?_
  rintro e w2 ⟨rfl, b2⟩
  have bw2 : Below w.heap.size w w2 := b1.trans (b2.mono b1.size)
  obtain ⟨cap, o, hcv, hraw⟩ := bytes_new (imgQ b n) w2 z2
  obtain ⟨W, hW⟩ : ∃ W, W = w2.drew.alloc o := ⟨_, rfl⟩
  have zW : W.heap.size = w2.heap.size + 1 := by rw [hW, World.size_alloc]; rfl
  have bwW : Below w.heap.size w W := by rw [hW]; exact bw2.drew.alloc bw2.size _
  rw [← hW] at hcv hraw
  clear hW b1 b2
  obtain ⟨c1, f1⟩ := hraw k hk
  have hback : (convert 30 9 (.slice (some ⟨w2.heap.size, 0, none⟩) 64 cap)).run Try.prog (W.setCell ⟨w2.heap.size, k, none⟩ (.int .u8 ((byteAt (imgQ b n) k + 1) % 256))) = .ok (.string (spoilB (imgQ b n) k ((byteAt (imgQ b n) k + 1) % 256))) (W.setCell ⟨w2.heap.size, k, none⟩ (.int .u8 ((byteAt (imgQ b n) k + 1) % 256))) :=
    run_bank _ _ _ _ (fun i => upd_bytes _ _ _ (by omega) (by omega) i) (raw_spoil hraw hk _)
  have bwX : Below w.heap.size w (W.setCell ⟨w2.heap.size, k, none⟩ (.int .u8 ((byteAt (imgQ b n) k + 1) % 256))) := bwW.setCell (by have := bw2.size; exact this) _
  have hsz : (spoilB (imgQ b n) k ((byteAt (imgQ b n) k + 1) % 256)).size = 64 := bankS_len _
  generalize spoilB (imgQ b n) k ((byteAt (imgQ b n) k + 1) % 256) = y at hback hsz
  clear hraw
  go_wp2_with fail
  refine Calls.mono (HN.out y _ hsz) ?_
  rintro e w3 ⟨l, rfl, r3, b3, o3⟩
  go_wp2
  go_ret
  exact ⟨l, _, y, rfl, r3, bwX.trans (b3.mono bwX.size), fun k hk => Nat.le_trans bwX.size (o3 k hk)⟩

set_option maxRecDepth 100000 in
set_option maxHeartbeats 1000000 in
theorem board_whole {B : PB} (hB : PBok B) (a b : ByteArray) (m n s : Int) (w : World) (ha : a.size ≤ maxLen) (hb : b.size ≤ maxLen) (m0 : -9223372036854775808 ≤ m) (m1 : m ≤ 9223372036854775807) (n0 : -9223372036854775808 ≤ n) (n1 : n ≤ 9223372036854775807) (hs : s < 0 ∨ 64 ≤ s) :
    Calls Try.prog 14 #[.string a, .string b, .int .i64 m, .int .i64 n, .int .i64 s] w fun e w' => ∃ l : B.Lt, e = .returned (.pointer (some ⟨B.g l, 0, none⟩)) ∧ B.rep 0 l (newSt (imgQ a m) (imgQ b n)) w' ∧ Below w.heap.size w w' ∧ ∀ k, B.own l k → w.heap.size ≤ k := by
  have HC : Hid (∀ s w, s.size ≤ maxLen → Calls Try.prog 11 #[.string s] w fun e w' => e = .returned (.string (codeB s)) ∧ w' = w) := fun s w h => qcode_any s w h
  have HP1 : Hid (∀ w, Calls Try.prog 9 #[.int .i64 m, .int .i64 256] w fun e w' => e = .returned (.int .i64 (pickQ m 256)) ∧ w' = w) := fun w => qpick_any m 256 w m0 m1 (by omega) (by omega)
  have HP2 : Hid (∀ w, Calls Try.prog 9 #[.int .i64 n, .int .i64 256] w fun e w' => e = .returned (.int .i64 (pickQ n 256)) ∧ w' = w) := fun w => qpick_any n 256 w n0 n1 (by omega) (by omega)
  have HN : Hid (∀ w, Calls Try.prog 21 #[.string (imgQ a m), .string (imgQ b n)] w fun e w' => ∃ l : B.Lt, e = .returned (.tuple #[.pointer (some ⟨B.g l, 0, none⟩), .int .i64 0]) ∧ B.rep 0 l (newSt (imgQ a m) (imgQ b n)) w' ∧ Below w.heap.size w w' ∧ ∀ k, B.own l k → w.heap.size ≤ k) := fun w => hB.new_ok _ _ w (imgQ_s a m) (imgQ_s b n)
  have HA : Hid _ := ha
  have HBs : Hid _ := hb
  have s1 := imgQ_s a m
  have s2 := imgQ_s b n
  clear ha hb m0 m1 n0 n1
  go_enter Try.func14, Try.ntmps14
  go_wp2_with fail
  refine Calls.mono (HC.out a _ HA.out) ?_
  rintro e v1 ⟨rfl, rfl⟩
  go_wp2_with fail
  refine Calls.mono (HP1.out _) ?_
  rintro e v3 ⟨rfl, rfl⟩
  go_wp2_with fail
  refine Calls.mono (imgQ_build a m _) ?_
  rintro e w1 ⟨rfl, b1⟩
  go_wp2_with fail
  refine Calls.mono (HC.out b _ HBs.out) ?_
  rintro e v2 ⟨rfl, rfl⟩
  go_wp2_with fail
  refine Calls.mono (HP2.out _) ?_
  rintro e v4 ⟨rfl, rfl⟩
  go_wp2_with fail
  refine Calls.mono (imgQ_build b n _) ?_
  rintro e w2 ⟨rfl, b2⟩
  by_cases hs0 : s < 0
  · have hs1 : ¬ 0 ≤ s := by omega
    go_wp2_with fail
    refine Calls.mono (HN.out _) ?_
    rintro e w3 ⟨l, rfl, r3, b3, o3⟩
    go_wp2
    go_ret
    exact ⟨l, rfl, r3, (b1.trans (b2.mono b1.size)).trans (b3.mono (Nat.le_trans b1.size b2.size)), fun k hk => Nat.le_trans (Nat.le_trans b1.size b2.size) (o3 k hk)⟩
  have hs2 : 0 ≤ s := by omega
  have hs3 : ¬ s < 64 := by omega
  go_wp2_with fail
  refine Calls.mono (HN.out _) ?_
  rintro e w3 ⟨l, rfl, r3, b3, o3⟩
  go_wp2
  go_ret
  exact ⟨l, rfl, r3, (b1.trans (b2.mono b1.size)).trans (b3.mono (Nat.le_trans b1.size b2.size)), fun k hk => Nat.le_trans (Nat.le_trans b1.size b2.size) (o3 k hk)⟩


/-- A board, whatever is told of spoiling. -/
theorem board_any {B : PB} (hB : PBok B) (a b : ByteArray) (m n s : Int) (w : World) (ha : a.size ≤ maxLen) (hb : b.size ≤ maxLen) (m0 : -9223372036854775808 ≤ m) (m1 : m ≤ 9223372036854775807) (n0 : -9223372036854775808 ≤ n) (n1 : n ≤ 9223372036854775807) :
    Calls Try.prog 14 #[.string a, .string b, .int .i64 m, .int .i64 n, .int .i64 s] w fun e w' => ∃ (l : B.Lt) (x y : ByteArray), e = .returned (.pointer (some ⟨B.g l, 0, none⟩)) ∧ B.rep 0 l (newSt x y) w' ∧ Below w.heap.size w w' ∧ ∀ k, B.own l k → w.heap.size ≤ k := by
  by_cases h : 0 ≤ s ∧ s < 64
  · exact board_spoilt hB a b m n s w ha hb m0 m1 n0 n1 h.1 h.2
  · exact (board_whole hB a b m n s w ha hb m0 m1 n0 n1 (by omega)).mono fun e w' ⟨l, q1, q2, q3, q4⟩ => ⟨l, _, _, q1, q2, q3, q4⟩

end Go.Proofs.Ytikdbpphbdbdnaa
