/- The script of Build, Valid and Choose: played to its end, true. -/
import Derived.Test.YtikdbpphbdbdnaaGreatId
namespace Go.Proofs.YtikdbpphbdbdnaaGreat
open Go.RowKit

/-- The cells of step i. -/
theorem IsOps.at {w : World} {b off n : Nat} {os : Nat → OpV} (h : IsOps w b off n os) (i : Nat) (hi : i < n) :
    w.cell? ⟨b, off + i * 8, none⟩ = some (.int .i64 (os i).k) ∧ w.cell? ⟨b, off + i * 8 + 1, none⟩ = some (.int .i64 (os i).a) ∧ w.cell? ⟨b, off + i * 8 + 2, none⟩ = some (.int .i64 (os i).b) ∧
    w.cell? ⟨b, off + i * 8 + 3, none⟩ = some (.string (os i).s) ∧ w.cell? ⟨b, off + i * 8 + 4, none⟩ = some (.string (os i).t) ∧ w.cell? ⟨b, off + i * 8 + 5, none⟩ = some (.int .i64 (os i).p) ∧
    w.cell? ⟨b, off + i * 8 + 6, none⟩ = some (.int .i64 (os i).q) ∧ w.cell? ⟨b, off + i * 8 + 7, none⟩ = some (.slice (os i).la (os i).ll (os i).lc) := by
  have hc := (h i hi).2.2
  exact ⟨hc 0 _ rfl, hc 1 _ rfl, hc 2 _ rfl, hc 3 _ rfl, hc 4 _ rfl, hc 5 _ rfl, hc 6 _ rfl, hc 7 _ rfl⟩

set_option maxRecDepth 100000 in
set_option maxHeartbeats 1000000 in
theorem plays_images (a : Option Addr) (n cap : Nat) (w : World) (os : Nat → OpV) (ha : n = 0 ∨ ∃ b off, a = some ⟨b, off, none⟩ ∧ b < w.heap.size ∧ IsOps w b off n os) :
    Calls Tryz.prog 7 #[.slice a n cap, .int .i64 1, .int .i64 3] w fun e w' => e = .returned (.bool true) ∧ Below w.heap.size w w' := by
  go_enter Tryz.func7, Tryz.ntmps7
  go_wp2_with fail
  refine (opening_any _).mono ?_
  rintro e w2 ⟨rfl, h2, hh⟩
  have hz : (w.alloc (.cells #[.slice none 0 0, .int .i64 0, .slice none 0 0, .slice none 0 0, .slice none 0 0, .slice none 0 0] 31)).heap.size = w.heap.size + 1 := by simp
  have i2 : Idle w.heap.size w2 := by
    have i1 : Idle w.heap.size (w.alloc (.cells #[.slice none 0 0, .int .i64 0, .slice none 0 0, .slice none 0 0, .slice none 0 0, .slice none 0 0] 31)) := heap_new _ _
    exact i1.below h2
  have k2 : Below w.heap.size w w2 := ((Below.refl _ w).alloc (Nat.le_refl _) _).trans (h2.mono (by simp))
  rw [hz] at hh ⊢
  have o2 := opening_ops w2 _ _ hh
  have lt2 : w.heap.size + 1 + 3 < w2.heap.size := (Array.getElem?_eq_some_iff.1 hh).1
  clear hh h2
  generalize opening (w.heap.size + 1 + 1) = hs at o2
  generalize w.heap.size + 1 + 3 = h at o2 lt2 ⊢
  go_wp2
  go_loopw [9] (fun i wr => ∃ k : Nat, k ≤ 12 ∧ i = .int .i64 k ∧ Idle w.heap.size wr ∧ IsOps wr h 0 12 hs ∧ h < wr.heap.size ∧ Below w.heap.size w wr) (fun i _ => 12 - (intOf i).toNat)
  case atStart => exact ⟨0, by omega, rfl, i2, o2, lt2, k2⟩
  case round =>
    obtain ⟨k, hk, rfl, ir, orr, ltr, kr⟩ := hrel
    by_cases hlt : k < 12
    · obtain ⟨c0, c1, c2, c3, c4, c5, c6, c7⟩ := orr.at k hlt
      obtain ⟨zs, zt, _⟩ := orr k hlt
      rw [Nat.zero_add] at c0 c1 c2 c3 c4 c5 c6 c7
      have hlt' : (k : Int) < 12 := by omega
      by_cases h1 : 1 ≤ (hs k).k
      · by_cases h3 : (hs k).k ≤ 3
        · go_wp2_with fail
          refine (step_images _ _ _ _ _ _ _ _ _ _ zs zt h1 h3).mono ?_
          rintro e w3 ⟨rfl, h3b⟩
          have i3 := ir.below h3b
          have o3 := orr.below h3b ltr
          have lt3 : h < w3.heap.size := Nat.lt_of_lt_of_le ltr h3b.size
          have k3 := kr.trans (h3b.mono kr.size)
          go_wp2
          go_roundw
          case rel => exact ⟨k + 1, by omega, by go_num, i3, o3, lt3, k3⟩
          case measure => simp [intOf]; omega
        · go_wp2
          go_roundw
          case rel => exact ⟨k + 1, by omega, by go_num, ir, orr, ltr, kr⟩
          case measure => simp [intOf]; omega
      · go_wp2
        go_roundw
        case rel => exact ⟨k + 1, by omega, by go_num, ir, orr, ltr, kr⟩
        case measure => simp [intOf]; omega
    · have hge : ¬ (k : Int) < 12 := by omega
      clear o2 i2 k2 lt2 orr ltr hlt hk hz
      go_wp2
      obtain ⟨wo, rfl⟩ : ∃ wo : World, wo = wr := ⟨_, rfl⟩
      go_loopw [11] (fun i wx => ∃ j : Nat, j ≤ n ∧ i = .int .i64 j ∧ Idle w.heap.size wx ∧ Below w.heap.size w wx) (fun i _ => n - (intOf i).toNat)
      case atStart => exact ⟨0, by omega, rfl, ir, kr⟩
      case round =>
        clear ir kr
        obtain ⟨j, hj, rfl, ix, kx⟩ := hrel
        by_cases hjn : j < n ∧ (j : Int) < 1152921504606846976
        · obtain ⟨hjn, h60⟩ := hjn
          have hjn' : (j : Int) < (n : Int) := by omega
          rcases ha with ha | ⟨b, off, rfl, hb, ho⟩
          · omega
          · have ox := ho.below kx hb
            obtain ⟨c0, c1, c2, c3, c4, c5, c6, c7⟩ := ox.at j hjn
            obtain ⟨zs, zt, _⟩ := ox j hjn
            by_cases h1 : 1 ≤ (os j).k
            · by_cases h3 : (os j).k ≤ 3
              · have h1' : ¬ (os j).k < 1 := by omega
                have h3' : ¬ 3 < (os j).k := by omega
                go_wp2_with fail
                refine (step_images _ _ _ _ _ _ _ _ _ _ zs zt h1 h3).mono ?_
                rintro e w3 ⟨rfl, h3b⟩
                have h3a : Below wr.heap.size wr w3 := ((Below.refl _ wr).alloc (Nat.le_refl _) _).trans (h3b.mono (by simp))
                clear h3b
                have i3 := ix.below h3a
                have k3 := kx.trans (h3a.mono kx.size)
                clear h3a
                by_cases hm : (j : Int) % 3 = 2
                · go_wp2_with fail
                  refine (settle_idle _ _ i3).mono ?_
                  rintro e w4 ⟨rfl, i4, k4⟩
                  have k4' := k3.trans k4
                  go_wp2_with fail
                  refine (looks_idle _ _ i4).mono ?_
                  rintro e w5 ⟨rfl, rfl⟩
                  go_wp2
                  exact ⟨⟨j + 1, by omega, by go_num, i4, k4'⟩, by simp [intOf]; omega⟩
                · have hm' : ((j : Int) % 3 == 2) = false := by simpa using hm
                  clear hm
                  go_wp2_with fail
                  refine (looks_idle _ _ i3).mono ?_
                  rintro e w5 ⟨rfl, rfl⟩
                  go_wp2
                  exact ⟨⟨j + 1, by omega, by go_num, i3, k3⟩, by simp [intOf]; omega⟩
              · have h1' : ¬ (os j).k < 1 := by omega
                have h3' : 3 < (os j).k := by omega
                have ba := fun o => (Below.refl wr.heap.size wr).alloc (Nat.le_refl _) o
                go_wp2
                exact ⟨⟨j + 1, by omega, by go_num, ix.below (ba _), kx.trans ((ba _).mono kx.size)⟩, by simp [intOf]; omega⟩
            · have h1' : (os j).k < 1 := by omega
              have ba := fun o => (Below.refl wr.heap.size wr).alloc (Nat.le_refl _) o
              go_wp2
              exact ⟨⟨j + 1, by omega, by go_num, ix.below (ba _), kx.trans ((ba _).mono kx.size)⟩, by simp [intOf]; omega⟩
        · by_cases hjn2 : j < n
          · have h60 : ¬ (j : Int) < 1152921504606846976 := fun x => hjn ⟨hjn2, x⟩
            have hjn' : (j : Int) < (n : Int) := by omega
            clear hjn ha
            go_wp2_with fail
            refine (settle_idle _ _ ix).mono ?_
            rintro e w4 ⟨rfl, i4, k4⟩
            have k4' := kx.trans k4
            go_wp2_with fail
            refine (looks_idle _ _ i4).mono ?_
            rintro e w5 ⟨rfl, rfl⟩
            go_wp2
            go_ret
            exact ⟨rfl, k4'⟩
          · have hjn' : ¬ (j : Int) < (n : Int) := by omega
            clear hjn ha
            go_wp2_with fail
            refine (settle_idle _ _ ix).mono ?_
            rintro e w4 ⟨rfl, i4, k4⟩
            have k4' := kx.trans k4
            go_wp2_with fail
            refine (looks_idle _ _ i4).mono ?_
            rintro e w5 ⟨rfl, rfl⟩
            go_wp2
            go_ret
            exact ⟨rfl, k4'⟩

end Go.Proofs.YtikdbpphbdbdnaaGreat
