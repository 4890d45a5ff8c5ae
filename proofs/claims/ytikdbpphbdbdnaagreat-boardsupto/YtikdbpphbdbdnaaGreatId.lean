/- Of several texts, one behind the other. -/
import Derived.Test.YtikdbpphbdbdnaaGreatBd
/- settle and looks where no list has come out yet: they answer true. -/
namespace Go.Proofs.YtikdbpphbdbdnaaGreat
open Go.RowKit

/-- The caller's book, at block g, with nothing in it. -/
def Idle (g : Nat) (w : World) : Prop :=
  w.heap[g]? = some (.cells #[.slice none 0 0, .int .i64 0, .slice none 0 0, .slice none 0 0, .slice none 0 0, .slice none 0 0] 31)

theorem Idle.cell {g : Nat} {w : World} (h : Idle g w) (j : Nat) (hj : j < 6) (hj1 : j ≠ 1) : w.cell? ⟨g, j, none⟩ = some (.slice none 0 0) := by
  unfold Idle at h
  simp only [World.cell?, h]
  rcases j with _ | _ | _ | _ | _ | _ | j
  · rfl
  · exact absurd rfl hj1
  · rfl
  · rfl
  · rfl
  · rfl
  · omega

theorem Idle.frozen {g : Nat} {w : World} (h : Idle g w) (j : Nat) : w.frozen? ⟨g, j, none⟩ = false := by
  unfold Idle at h
  simp [World.frozen?, h]

theorem Idle.below {g : Nat} {w w' : World} (h : Idle g w) (hb : Below w.heap.size w w') : Idle g w' := by
  unfold Idle at h ⊢
  rw [hb.block g (Array.getElem?_eq_some_iff.1 h).1, h]

theorem Idle.set {g : Nat} {w : World} (h : Idle g w) (j : Nat) (hj : j < 6) (hj1 : j ≠ 1) : Idle g (w.setCell ⟨g, j, none⟩ (.slice none 0 0)) := by
  unfold Idle at h ⊢
  rw [heap_setCell_same w g j _ _ _ h]
  congr 2
  rcases j with _ | _ | _ | _ | _ | _ | j
  · rfl
  · exact absurd rfl hj1
  · rfl
  · rfl
  · rfl
  · rfl
  · omega

set_option maxHeartbeats 400000 in
theorem settle_idle (g : Nat) (w : World) (hi : Idle g w) :
    Calls Tryz.prog 10 #[.pointer (some ⟨g, 0, none⟩)] w fun e w' => e = .returned (.bool true) ∧ Idle g w' ∧ Below g w w' := by
  have c2 := hi.cell 2 (by omega) (by omega)
  have c3 := hi.cell 3 (by omega) (by omega)
  have f2 := hi.frozen 2
  have f3 := hi.frozen 3
  go_enter Tryz.func10, Tryz.ntmps10
  go_wp2
  go_loop [3, 4] (fun ok i => ok = .bool true ∧ i = .int .i64 0) (fun _ _ => 0)
  case atStart => exact ⟨rfl, rfl⟩
  case round =>
    obtain ⟨rfl, rfl⟩ := hrel
    go_wp2
    go_loop [6] (fun i => i = .int .i64 0) (fun _ => 0)
    case atStart => exact rfl
    case round =>
      subst hrel
      go_wp2
      go_ret
      exact ⟨rfl, (hi.set 2 (by omega) (by omega)).set 3 (by omega) (by omega), ((Below.refl g w).setCell (Nat.le_refl _) _).setCell (Nat.le_refl _) _⟩

set_option maxHeartbeats 400000 in
theorem looks_idle (g : Nat) (w : World) (hi : Idle g w) :
    Calls Tryz.prog 11 #[.pointer (some ⟨g, 0, none⟩)] w fun e w' => e = .returned (.bool true) ∧ w' = w := by
  have c4 := hi.cell 4 (by omega) (by omega)
  have c5 := hi.cell 5 (by omega) (by omega)
  go_enter Tryz.func11, Tryz.ntmps11
  go_wp2
  go_loop [3] (fun i => i = .int .i64 0) (fun _ => 0)
  case atStart => exact rfl
  case round =>
    subst hrel
    go_wp2
    go_loop [9] (fun i => i = .int .i64 0) (fun _ => 0)
    case atStart => exact rfl
    case round =>
      subst hrel
      go_wp2
      go_ret
      exact ⟨rfl, rfl⟩

end Go.Proofs.YtikdbpphbdbdnaaGreat

/- The opening's list of steps; what a list of steps is in memory. -/
namespace Go.Proofs.YtikdbpphbdbdnaaGreat
open Go.RowKit

/-- One step, as it lies in memory. -/
structure OpV where
  k : Int
  a : Int
  b : Int
  s : ByteArray
  t : ByteArray
  p : Int
  q : Int
  la : Option Addr
  ll : Nat
  lc : Nat

/-- The cells of a step. -/
def OpV.cells (o : OpV) : List Value := [.int .i64 o.k, .int .i64 o.a, .int .i64 o.b, .string o.s, .string o.t, .int .i64 o.p, .int .i64 o.q, .slice o.la o.ll o.lc]

/-- n steps, one behind the other, from a place on. -/
def IsOps (w : World) (b off n : Nat) (os : Nat → OpV) : Prop :=
  ∀ i, i < n → (os i).s.size ≤ maxLen ∧ (os i).t.size ≤ maxLen ∧ ∀ j v, (os i).cells[j]? = some v → w.cell? ⟨b, off + i * 8 + j, none⟩ = some v

theorem IsOps.below {w w' : World} {B b off n : Nat} {os : Nat → OpV} (h : IsOps w b off n os) (hb : Below B w w') (hB : b < B) : IsOps w' b off n os :=
  fun i hi => ⟨(h i hi).1, (h i hi).2.1, fun j v hj => by rw [hb.cell (p := ⟨b, off + i * 8 + j, none⟩) hB]; exact (h i hi).2.2 j v hj⟩

/-- The steps of the opening (g: the block of the first list of inputs among them). -/
def openingOps (g : Nat) : List OpV := [
  ⟨1, 7, 0, ⟨#[16, 130]⟩, ⟨#[]⟩, 0, 0, none, 0, 0⟩,
  ⟨1, -1, 0, ⟨#[]⟩, ⟨#[]⟩, 0, 0, none, 0, 0⟩,
  ⟨2, 0, 0, ⟨#[120]⟩, ⟨#[]⟩, 0, 0, none, 0, 0⟩,
  ⟨2, 0, 0, ⟨#[]⟩, ⟨#[]⟩, 0, 0, none, 0, 0⟩,
  ⟨3, 0, 0, ⟨#[]⟩, ⟨#[]⟩, 1, 2, none, 0, 0⟩,
  ⟨4, 0, 0, ⟨#[115, 104, 111, 114, 116]⟩, ⟨#[]⟩, 0, 0, none, 0, 0⟩,
  ⟨5, 1, 0, ⟨#[2, 198, 3, 197, 16, 130]⟩, ⟨#[]⟩, 0, 0, none, 0, 0⟩,
  ⟨6, 0, 0, ⟨#[]⟩, ⟨#[]⟩, 0, 0, some ⟨g, 0, none⟩, 10, 10⟩,
  ⟨8, 0, 0, ⟨#[]⟩, ⟨#[]⟩, 0, 0, none, 0, 0⟩,
  ⟨9, 0, 0, ⟨#[]⟩, ⟨#[]⟩, 0, 0, some ⟨g + 1, 0, none⟩, 2, 2⟩,
  ⟨10, 0, 2, ⟨#[]⟩, ⟨#[]⟩, 0, 0, none, 0, 0⟩,
  ⟨11, 0, 128, ⟨#[]⟩, ⟨#[]⟩, 0, 0, none, 0, 0⟩]

def opening (g : Nat) (i : Nat) : OpV := (openingOps g).getD i ⟨0, 0, 0, ⟨#[]⟩, ⟨#[]⟩, 0, 0, none, 0, 0⟩

theorem cell_cells {w : World} {b : Nat} {cs : Array Value} {t : TypeId} (h : w.heap[b]? = some (.cells cs t)) (j : Nat) : w.cell? ⟨b, j, none⟩ = cs[j]? := by
  simp [World.cell?, h]

theorem opening_ops (w : World) (g h : Nat) (hh : w.heap[h]? = some (.cells ((openingOps g).flatMap OpV.cells).toArray 36)) : IsOps w h 0 12 (opening g) := by
  intro i hi
  have key : ∀ j, j < 8 → w.cell? ⟨h, 0 + i * 8 + j, none⟩ = (opening g i).cells[j]? := by
    intro j hj
    rw [cell_cells hh]
    have : i = 0 ∨ i = 1 ∨ i = 2 ∨ i = 3 ∨ i = 4 ∨ i = 5 ∨ i = 6 ∨ i = 7 ∨ i = 8 ∨ i = 9 ∨ i = 10 ∨ i = 11 := by omega
    have hj' : j = 0 ∨ j = 1 ∨ j = 2 ∨ j = 3 ∨ j = 4 ∨ j = 5 ∨ j = 6 ∨ j = 7 := by omega
    rcases this with rfl | rfl | rfl | rfl | rfl | rfl | rfl | rfl | rfl | rfl | rfl | rfl <;> rcases hj' with rfl | rfl | rfl | rfl | rfl | rfl | rfl | rfl <;> rfl
  have sz : (opening g i).s.size ≤ 100 ∧ (opening g i).t.size ≤ 100 := by
    have : i = 0 ∨ i = 1 ∨ i = 2 ∨ i = 3 ∨ i = 4 ∨ i = 5 ∨ i = 6 ∨ i = 7 ∨ i = 8 ∨ i = 9 ∨ i = 10 ∨ i = 11 := by omega
    rcases this with rfl | rfl | rfl | rfl | rfl | rfl | rfl | rfl | rfl | rfl | rfl | rfl <;> exact ⟨of_decide_eq_true rfl, of_decide_eq_true rfl⟩
  refine ⟨by unfold maxLen; omega, by unfold maxLen; omega, fun j v hv => ?_⟩
  have hj : j < 8 := by
    rcases Nat.lt_or_ge j 8 with h | h
    · exact h
    · rw [List.getElem?_eq_none (by exact h)] at hv; cases hv
  rw [key j hj, hv]

set_option maxRecDepth 100000 in
set_option maxHeartbeats 1000000 in
theorem opening_any (w : World) :
    Calls Tryz.prog 8 #[] w fun e w' => e = .returned (.slice (some ⟨w.heap.size + 3, 0, none⟩) 12 12) ∧ Below w.heap.size w w' ∧ w'.heap[w.heap.size + 3]? = some (.cells ((openingOps (w.heap.size + 1)).flatMap OpV.cells).toArray 36) := by
  go_enter Tryz.func8, Tryz.ntmps8
  go_wp2
  go_ret
  refine ⟨rfl, ?_, ?_⟩
  · exact ((((Below.refl _ w).alloc (Nat.le_refl _) _).alloc (by simp) _).alloc (by simp; omega) _).alloc (by simp; omega) _
  · rw [show w.heap.size + 3 = w.heap.size + 1 + 1 + 1 from rfl]
    have hs : ∀ (a b c : Obj), ((((w.alloc a).alloc b).alloc c)).heap.size = w.heap.size + 1 + 1 + 1 := fun a b c => by simp
    rw [← hs _ _ _, heap_new]
    rfl

end Go.Proofs.YtikdbpphbdbdnaaGreat
