/- The program's board: what New leaves. -/
import Derived.Test.YtommhbidkoeifaaGreatNewX1
namespace Go.Proofs.YtommhbidkoeifaaGreat
open Go.RowKit
set_option linter.unusedVariables false

theorem raw_new (w : World) (c : Array Value) (t : TypeId) (n : Nat) (F : Nat → Value) (hc : ∀ i, i < n → c[i]? = some (F i)) : Raw w.heap.size n F (w.alloc (.cells c t)) := fun i hi => by
  have g0 : (w.alloc (.cells c t)).heap[w.heap.size]? = some (.cells c t) := heap_at _ _
  refine ⟨?_, ?_⟩
  · simp only [World.cell?, g0]
    rw [if_neg (by simp)]
    exact hc i hi
  · simp only [World.frozen?, g0]
    simp

theorem zeroM : Tryz.zeroCells137 = Array.replicate 128 (.int .u8 0) := by kernel_rfl

def newX : Ext := ⟨0, 0, 0, [], 0, 0, 0, false, false, 0⟩

def newL (b : Nat) : XL := { nb := b + 10, g := b + 7, bs := b + 9, ck := b, bk := b + 1, tm := b + 2, wa := b + 3, po := b + 4, up := b + 5, re := b + 6, me := b + 8, q := none, cap := 0 }

theorem newL_own (b k : Nat) (h : (newL b).own k) : b ≤ k := by
  rcases h with ⟨j, hj, rfl⟩ | h
  · rcases eleven hj with rfl | rfl | rfl | rfl | rfl | rfl | rfl | rfl | rfl | rfl | rfl <;> simp only [newL, XL.blk] <;> omega
  · cases h

theorem newL_inj (b i j : Nat) (hi : i < 11) (hj : j < 11) (h : (newL b).blk i = (newL b).blk j) : i = j := by
  rcases eleven hi with rfl | rfl | rfl | rfl | rfl | rfl | rfl | rfl | rfl | rfl | rfl <;>
    rcases eleven hj with rfl | rfl | rfl | rfl | rfl | rfl | rfl | rfl | rfl | rfl | rfl <;>
    first | rfl | (exfalso; simp only [newL, XL.blk] at h; omega)

theorem Raw.same {g g' n : Nat} {F : Nat → Value} {w : World} (h : Raw g n F w) (e : g = g') : Raw g' n F w := e ▸ h

set_option maxRecDepth 100000 in
set_option maxHeartbeats 1000000 in
theorem new_xrep (a b : ByteArray) (w w1 w9 : World) (h : a.size = 64) (h2 : b.size = 64) (W : World) (t : TypeId)
    (hW : W = w.alloc (.cells #[.int .i64 0, .slice none 0 0] 111))
    (h1 : w1 = ((W.alloc (.cells (zeroK.setIfInBounds 130 (.int .i64 (-1))) 146)).setCells W.heap.size 0 (strs a)).setCells W.heap.size 64 (strs b))
    (h9 : Still (newW w w1 (w1.heap.size + 1 + 1 + 1 + 1 + 1)) w9) (hs9 : w9.heap.size = w.heap.size + 10) :
    XRep (newL w.heap.size) (newSt a b) newX (w9.alloc (.cells #[.pointer (some ⟨w.heap.size + 7, 0, none⟩)] t)) ∧ Kept (fun _ => False) w (w9.alloc (.cells #[.pointer (some ⟨w.heap.size + 7, 0, none⟩)] t)) := by
  have zW : W.heap.size = w.heap.size + 1 := by rw [hW, World.size_alloc]
  have rck : Raw w.heap.size 2 (encck (newL w.heap.size) (newSt a b) newX) W := by
    rw [hW]
    refine raw_new w _ _ 2 _ fun i hi => ?_
    rcases (by omega : i = 0 ∨ i = 1) with rfl | rfl <;> rfl
  have kW : Kept (fun _ => False) w W := by rw [hW]; exact (Kept.refl _ _).alloc _
  have z1 : w1.heap.size = w.heap.size + 2 := by rw [h1, setCells_size, setCells_size, World.size_alloc, zW]
  have rbk : Raw (w.heap.size + 1) 131 (encbk (newL w.heap.size) (newSt a b) newX) w1 := by
    rw [h1, ← zW]
    exact newBanks_raw a b W h h2 _ _
  have k1 : Kept (fun _ => False) W w1 := by
    rw [h1]
    exact setCells_kept _ (Or.inr (Nat.le_refl _)) _ _ _ (setCells_kept _ (Or.inr (Nat.le_refl _)) _ _ _ ((Kept.refl _ _).alloc _))
  clear h1 hW
  unfold newW at h9
  rw [z1] at h9
  obtain ⟨W2, e2⟩ : ∃ W, W = w1.alloc (.cells #[.pointer (some ⟨w.heap.size, 0, none⟩), .int .u8 0, .int .i64 0, .bool false] 116) := ⟨_, rfl⟩
  rw [← e2] at h9
  have z2 : W2.heap.size = w.heap.size + 3 := by rw [e2, World.size_alloc, z1]
  have k2 : Kept (fun _ => False) w1 W2 := by rw [e2]; exact (Kept.refl _ _).alloc _
  have rtm : Raw (w.heap.size + 2) 4 (enctm (newL w.heap.size) (newSt a b) newX) W2 := by
    rw [e2]
    refine (raw_new w1 _ _ 4 _ fun i hi => ?_).same z1
    rcases (by omega : i = 0 ∨ i = 1 ∨ i = 2 ∨ i = 3) with rfl | rfl | rfl | rfl <;> rfl
  obtain ⟨W3, e3⟩ : ∃ W, W = W2.alloc (.cells #[.pointer (some ⟨w.heap.size, 0, none⟩), .int .i64 0, .int .u8 0, .bool false, .bool false, .bool false] 119) := ⟨_, rfl⟩
  rw [← e3] at h9
  have z3 : W3.heap.size = w.heap.size + 4 := by rw [e3, World.size_alloc, z2]
  have k3 : Kept (fun _ => False) W2 W3 := by rw [e3]; exact (Kept.refl _ _).alloc _
  have rwa : Raw (w.heap.size + 3) 6 (encwa (newL w.heap.size) (newSt a b) newX) W3 := by
    rw [e3]
    refine (raw_new W2 _ _ 6 _ fun i hi => ?_).same z2
    rcases (by omega : i = 0 ∨ i = 1 ∨ i = 2 ∨ i = 3 ∨ i = 4 ∨ i = 5) with rfl | rfl | rfl | rfl | rfl | rfl <;> rfl
  obtain ⟨W4, e4⟩ : ∃ W, W = W3.alloc (.cells #[.int .u8 0, .int .u8 0] 122) := ⟨_, rfl⟩
  rw [← e4] at h9
  have z4 : W4.heap.size = w.heap.size + 5 := by rw [e4, World.size_alloc, z3]
  have k4 : Kept (fun _ => False) W3 W4 := by rw [e4]; exact (Kept.refl _ _).alloc _
  have rpo : Raw (w.heap.size + 4) 2 (encpo (newL w.heap.size) (newSt a b) newX) W4 := by
    rw [e4]
    refine (raw_new W3 _ _ 2 _ fun i hi => ?_).same z3
    rcases (by omega : i = 0 ∨ i = 1) with rfl | rfl <;> rfl
  obtain ⟨W5, e5⟩ : ∃ W, W = W4.alloc (.cells #[.pointer (some ⟨w.heap.size + 1, 0, none⟩), .bool false, .int .u8 0] 125) := ⟨_, rfl⟩
  rw [← e5] at h9
  have z5 : W5.heap.size = w.heap.size + 6 := by rw [e5, World.size_alloc, z4]
  have k5 : Kept (fun _ => False) W4 W5 := by rw [e5]; exact (Kept.refl _ _).alloc _
  have rup : Raw (w.heap.size + 5) 3 (encup (newL w.heap.size) (newSt a b) newX) W5 := by
    rw [e5]
    refine (raw_new W4 _ _ 3 _ fun i hi => ?_).same z4
    rcases (by omega : i = 0 ∨ i = 1 ∨ i = 2) with rfl | rfl | rfl <;> rfl
  obtain ⟨W6, e6⟩ : ∃ W, W = W5.alloc (.cells #[.int .i64 1, .pointer (some ⟨w.heap.size + 1, 0, none⟩)] 128) := ⟨_, rfl⟩
  rw [← e6] at h9
  have z6 : W6.heap.size = w.heap.size + 7 := by rw [e6, World.size_alloc, z5]
  have k6 : Kept (fun _ => False) W5 W6 := by rw [e6]; exact (Kept.refl _ _).alloc _
  have rre : Raw (w.heap.size + 6) 2 (encre (newL w.heap.size) (newSt a b) newX) W6 := by
    rw [e6]
    refine (raw_new W5 _ _ 2 _ fun i hi => ?_).same z5
    rcases (by omega : i = 0 ∨ i = 1) with rfl | rfl <;> rfl
  obtain ⟨W7, e7⟩ : ∃ W, W = W6.alloc (.cells #[.int .u8 0, .int .u8 0, .int .u8 0, .bool false, .bool false, .int .i64 0, .int .u8 0, .int .u8 0, .bool false, .slice none 0 0, .pointer (some ⟨w.heap.size, 0, none⟩), .pointer (some ⟨w.heap.size + 1, 0, none⟩), .pointer (some ⟨w.heap.size + 2, 0, none⟩), .pointer (some ⟨w.heap.size + 2 + 1, 0, none⟩), .pointer (some ⟨w.heap.size + 2 + 1 + 1, 0, none⟩), .pointer (some ⟨w.heap.size + 2 + 1 + 1 + 1, 0, none⟩), .pointer (some ⟨w.heap.size + 2 + 1 + 1 + 1 + 1, 0, none⟩), .bool false, .int .i64 4] 135) := ⟨_, rfl⟩
  rw [← e7] at h9
  have z7 : W7.heap.size = w.heap.size + 8 := by rw [e7, World.size_alloc, z6]
  have k7 : Kept (fun _ => False) W6 W7 := by rw [e7]; exact (Kept.refl _ _).alloc _
  have rg : Raw (w.heap.size + 7) 19 ((fun i => if i = 9 then .slice none 0 0 else encg (newL w.heap.size) (newSt a b) newX i)) W7 := by
    rw [e7]
    refine (raw_new W6 _ _ 19 _ fun i hi => ?_).same z6
    rcases (by omega : i = 0 ∨ i = 1 ∨ i = 2 ∨ i = 3 ∨ i = 4 ∨ i = 5 ∨ i = 6 ∨ i = 7 ∨ i = 8 ∨ i = 9 ∨ i = 10 ∨ i = 11 ∨ i = 12 ∨ i = 13 ∨ i = 14 ∨ i = 15 ∨ i = 16 ∨ i = 17 ∨ i = 18) with rfl | rfl | rfl | rfl | rfl | rfl | rfl | rfl | rfl | rfl | rfl | rfl | rfl | rfl | rfl | rfl | rfl | rfl | rfl <;> rfl
  obtain ⟨V0, e20⟩ : ∃ W, W = W7.setCell ⟨w.heap.size + 2 + 1 + 1 + 1 + 1 + 1, 9, none⟩ (.slice (some ⟨w.heap.size + 2 + 1 + 1 + 1 + 1 + 1 + 1 + 1, 0, none⟩) 7 7) := ⟨_, rfl⟩
  rw [← e20] at h9
  have z20 : V0.heap.size = w.heap.size + 8 := by rw [e20]; simp [z7]
  have k20 : Kept (fun k => k = w.heap.size + 7) W7 V0 := by rw [e20]; exact (Kept.refl (fun k => k = w.heap.size + 7) W7).setCell (b := w.heap.size + 2 + 1 + 1 + 1 + 1 + 1) (Or.inl rfl) _
  have rg : Raw (w.heap.size + 7) 19 (encg (newL w.heap.size) (newSt a b) newX) V0 := by
    rw [e20]
    refine Raw.set (k := 9) rg (by omega) _ fun i hi => ?_
    by_cases e : i = 9
    · subst e; rfl
    · rw [if_neg e, if_neg e]
  obtain ⟨V1, e21⟩ : ∃ W, W = V0.alloc (.cells Tryz.zeroCells137 137) := ⟨_, rfl⟩
  rw [← e21] at h9
  have z21 : V1.heap.size = w.heap.size + 9 := by rw [e21, World.size_alloc, z20]
  have k21 : Kept (fun _ => False) V0 V1 := by rw [e21]; exact (Kept.refl _ _).alloc _
  have rme : Raw (w.heap.size + 8) 128 (encme (newL w.heap.size) (newSt a b) newX) V1 := by
    rw [e21, zeroM]
    refine (raw_new V0 _ _ 128 _ fun i hi => ?_).same z20
    rw [Array.getElem?_replicate, if_pos hi]
    rfl
  obtain ⟨V2, e22⟩ : ∃ W, W = V1.alloc (.cells #[.int .u8 0, .int .u8 127, .iface 136 (.pointer (some ⟨w.heap.size + 2 + 1 + 1 + 1 + 1 + 1 + 1, 0, none⟩)), .int .u8 128, .int .u8 191, .iface 143 (.agg #[.pointer (some ⟨w.heap.size + 1, 0, none⟩)]), .int .u8 192, .int .u8 194, .iface 114 (.pointer (some ⟨w.heap.size + 2, 0, none⟩)), .int .u8 195, .int .u8 196, .iface 117 (.pointer (some ⟨w.heap.size + 2 + 1, 0, none⟩)), .int .u8 197, .int .u8 198, .iface 120 (.pointer (some ⟨w.heap.size + 2 + 1 + 1, 0, none⟩)), .int .u8 199, .int .u8 201, .iface 123 (.pointer (some ⟨w.heap.size + 2 + 1 + 1 + 1, 0, none⟩)), .int .u8 202, .int .u8 203, .iface 126 (.pointer (some ⟨w.heap.size + 2 + 1 + 1 + 1 + 1, 0, none⟩))] 141) := ⟨_, rfl⟩
  rw [← e22] at h9
  have z22 : V2.heap.size = w.heap.size + 10 := by rw [e22, World.size_alloc, z21]
  have k22 : Kept (fun _ => False) V1 V2 := by rw [e22]; exact (Kept.refl _ _).alloc _
  have rbs : Raw (w.heap.size + 9) 21 (encbs (newL w.heap.size) (newSt a b) newX) V2 := by
    rw [e22]
    refine (raw_new V1 _ _ 21 _ fun i hi => ?_).same z21
    rcases (by omega : i = 0 ∨ i = 1 ∨ i = 2 ∨ i = 3 ∨ i = 4 ∨ i = 5 ∨ i = 6 ∨ i = 7 ∨ i = 8 ∨ i = 9 ∨ i = 10 ∨ i = 11 ∨ i = 12 ∨ i = 13 ∨ i = 14 ∨ i = 15 ∨ i = 16 ∨ i = 17 ∨ i = 18 ∨ i = 19 ∨ i = 20) with rfl | rfl | rfl | rfl | rfl | rfl | rfl | rfl | rfl | rfl | rfl | rfl | rfl | rfl | rfl | rfl | rfl | rfl | rfl | rfl | rfl <;> rfl
  have rnb : Raw (w.heap.size + 10) 1 (encnb (newL w.heap.size) (newSt a b) newX) (w9.alloc (.cells #[.pointer (some ⟨w.heap.size + 7, 0, none⟩)] t)) := by
    refine (raw_new w9 _ _ 1 _ fun i hi => ?_).same hs9
    have e : i = 0 := by omega
    subst e; rfl
  have k30 : Kept (fun _ => False) w9 (w9.alloc (.cells #[.pointer (some ⟨w.heap.size + 7, 0, none⟩)] t)) := (Kept.refl _ _).alloc _
  have kF : Kept (fun _ => False) V0 (w9.alloc (.cells #[.pointer (some ⟨w.heap.size + 7, 0, none⟩)] t)) := ((k21.trans k22).trans h9).trans k30
  have K7 : Kept (fun k => k = w.heap.size + 7) W7 (w9.alloc (.cells #[.pointer (some ⟨w.heap.size + 7, 0, none⟩)] t)) := k20.trans (kF.wide (fun _ x => x.elim))
  have K6 : Kept (fun k => k = w.heap.size + 7) W6 (w9.alloc (.cells #[.pointer (some ⟨w.heap.size + 7, 0, none⟩)] t)) := (k7.wide (fun _ x => x.elim)).trans K7
  have K5 : Kept (fun k => k = w.heap.size + 7) W5 (w9.alloc (.cells #[.pointer (some ⟨w.heap.size + 7, 0, none⟩)] t)) := (k6.wide (fun _ x => x.elim)).trans K6
  have K4 : Kept (fun k => k = w.heap.size + 7) W4 (w9.alloc (.cells #[.pointer (some ⟨w.heap.size + 7, 0, none⟩)] t)) := (k5.wide (fun _ x => x.elim)).trans K5
  have K3 : Kept (fun k => k = w.heap.size + 7) W3 (w9.alloc (.cells #[.pointer (some ⟨w.heap.size + 7, 0, none⟩)] t)) := (k4.wide (fun _ x => x.elim)).trans K4
  have K2 : Kept (fun k => k = w.heap.size + 7) W2 (w9.alloc (.cells #[.pointer (some ⟨w.heap.size + 7, 0, none⟩)] t)) := (k3.wide (fun _ x => x.elim)).trans K3
  have K1 : Kept (fun k => k = w.heap.size + 7) w1 (w9.alloc (.cells #[.pointer (some ⟨w.heap.size + 7, 0, none⟩)] t)) := (k2.wide (fun _ x => x.elim)).trans K2
  have K0 : Kept (fun k => k = w.heap.size + 7) W (w9.alloc (.cells #[.pointer (some ⟨w.heap.size + 7, 0, none⟩)] t)) := (k1.wide (fun _ x => x.elim)).trans K1
  have Kw : Kept (fun k => k = w.heap.size + 7) w (w9.alloc (.cells #[.pointer (some ⟨w.heap.size + 7, 0, none⟩)] t)) := (kW.wide (fun _ x => x.elim)).trans K0
  clear e2 e3 e4 e5 e6 e7 e20 e21 e22
  refine ⟨⟨fun j hj => ?_, newL_inj _, ⟨rfl, Or.inl ⟨rfl, rfl⟩⟩, fun q hq => by cases hq⟩, ⟨Kw.os, Kw.tape, Kw.output, Kw.size, fun k hk _ => Kw.block k hk (by omega)⟩⟩
  rcases eleven hj with rfl | rfl | rfl | rfl | rfl | rfl | rfl | rfl | rfl | rfl | rfl
  · exact rnb
  · exact rg.kept kF (by omega) (fun x => x)
  · exact rbs.kept (Kept.trans h9 k30) (by omega) (fun x => x)
  · exact rck.kept K0 (by omega) (by omega)
  · exact rbk.kept K1 (by omega) (by omega)
  · exact rtm.kept K2 (by omega) (by omega)
  · exact rwa.kept K3 (by omega) (by omega)
  · exact rpo.kept K4 (by omega) (by omega)
  · exact rup.kept K5 (by omega) (by omega)
  · exact rre.kept K6 (by omega) (by omega)
  · exact rme.kept ((k22.trans h9).trans k30) (by omega) (fun x => x)

end Go.Proofs.YtommhbidkoeifaaGreat
