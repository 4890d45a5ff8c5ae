/- settle and looks where no list has come out yet: they answer true. -/
import Derived.Test.YtommhbidkoeifaaGreatLaw
namespace Go.Proofs.YtommhbidkoeifaaGreat
open Go.RowKit

/-- The caller's book, at block g, with nothing in it. -/
def Idle (g : Nat) (w : World) : Prop :=
  w.heap[g]? = some (.cells #[.slice none 0 0, .int .i64 0, .slice none 0 0, .slice none 0 0, .slice none 0 0, .slice none 0 0] 31)

theorem Idle.cell {g : Nat} {w : World} (h : Idle g w) (j : Nat) (hj : j < 6) (hj1 : j ≠ 1) : w.cell? ⟨g, j, none⟩ = some (.slice none 0 0) := by
  unfold Idle at h
  simp only [World.cell?, h]
  rcases j with _ | _ | _ | _ | _ | _ | j
  · rfl
  · exact absurd rfl hj1
  · rfl
  · rfl
  · rfl
  · rfl
  · omega

theorem Idle.frozen {g : Nat} {w : World} (h : Idle g w) (j : Nat) : w.frozen? ⟨g, j, none⟩ = false := by
  unfold Idle at h
  simp [World.frozen?, h]

theorem Idle.below {g : Nat} {w w' : World} (h : Idle g w) (hb : Below w.heap.size w w') : Idle g w' := by
  unfold Idle at h ⊢
  rw [hb.block g (Array.getElem?_eq_some_iff.1 h).1, h]

theorem Idle.set {g : Nat} {w : World} (h : Idle g w) (j : Nat) (hj : j < 6) (hj1 : j ≠ 1) : Idle g (w.setCell ⟨g, j, none⟩ (.slice none 0 0)) := by
  unfold Idle at h ⊢
  rw [heap_setCell_same w g j _ _ _ h]
  congr 2
  rcases j with _ | _ | _ | _ | _ | _ | j
  · rfl
  · exact absurd rfl hj1
  · rfl
  · rfl
  · rfl
  · rfl
  · omega

set_option maxHeartbeats 400000 in
theorem settle_idle (g : Nat) (w : World) (hi : Idle g w) :
    Calls Tryz.prog 8 #[.pointer (some ⟨g, 0, none⟩)] w fun e w' => e = .returned (.bool true) ∧ Idle g w' ∧ Below g w w' := by
  have c2 := hi.cell 2 (by omega) (by omega)
  have c3 := hi.cell 3 (by omega) (by omega)
  have f2 := hi.frozen 2
  have f3 := hi.frozen 3
  go_enter Tryz.func8, Tryz.ntmps8
  go_wp2
  go_loop [3, 4] (fun ok i => ok = .bool true ∧ i = .int .i64 0) (fun _ _ => 0)
  case atStart => exact ⟨rfl, rfl⟩
  case round =>
    obtain ⟨rfl, rfl⟩ := hrel
    go_wp2
    go_loop [6] (fun i => i = .int .i64 0) (fun _ => 0)
    case atStart => exact rfl
    case round =>
      subst hrel
      go_wp2
      go_ret
      exact ⟨rfl, (hi.set 2 (by omega) (by omega)).set 3 (by omega) (by omega), ((Below.refl g w).setCell (Nat.le_refl _) _).setCell (Nat.le_refl _) _⟩

set_option maxHeartbeats 400000 in
theorem looks_idle (g : Nat) (w : World) (hi : Idle g w) :
    Calls Tryz.prog 9 #[.pointer (some ⟨g, 0, none⟩)] w fun e w' => e = .returned (.bool true) ∧ w' = w := by
  have c4 := hi.cell 4 (by omega) (by omega)
  have c5 := hi.cell 5 (by omega) (by omega)
  go_enter Tryz.func9, Tryz.ntmps9
  go_wp2
  go_loop [3] (fun i => i = .int .i64 0) (fun _ => 0)
  case atStart => exact rfl
  case round =>
    subst hrel
    go_wp2
    go_loop [9] (fun i => i = .int .i64 0) (fun _ => 0)
    case atStart => exact rfl
    case round =>
      subst hrel
      go_wp2
      go_ret
      exact ⟨rfl, rfl⟩

end Go.Proofs.YtommhbidkoeifaaGreat
