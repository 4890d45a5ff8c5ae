/- A script of the kinds from lo up to 11, over whatever board the program has: played to its end, true. -/
import Derived.Test.YtikdbpphbdbdnaaGreatOpeningM
namespace Go.Proofs.YtikdbpphbdbdnaaGreat
open Go.RowKit
set_option linter.unusedVariables false

theorem tab_start {B : PB} (w w2 : World) (h2 : Below (w.alloc (.cells #[.slice none 0 0, .int .i64 0, .slice none 0 0, .slice none 0 0, .slice none 0 0, .slice none 0 0] 31)).heap.size (w.alloc (.cells #[.slice none 0 0, .int .i64 0, .slice none 0 0, .slice none 0 0, .slice none 0 0, .slice none 0 0] 31)) w2) (hlt : w.heap.size < w2.heap.size) : Tab B 0 w.heap.size w2.heap.size (.slice none 0 0) [] w2 := by
  have hh : w2.heap[w.heap.size]? = some (.cells #[.slice none 0 0, .int .i64 0, .slice none 0 0, .slice none 0 0, .slice none 0 0, .slice none 0 0] 31) := by rw [h2.block w.heap.size (by simp), heap_new]
  have hc : ∀ j, j < 6 → w2.frozen? ⟨w.heap.size, j, none⟩ = false := fun j hj => by simp [World.frozen?, hh]
  refine ⟨hlt, Nat.le_refl _, by rw [cell_in hh]; rfl, hc, ⟨rfl, Or.inl ⟨rfl, rfl⟩⟩, fun i e he => (by cases he), fun i e he => (by cases he), fun i j e e' _ he => (by cases he), fun _ => 0, ⟨0, .slice none 0 0, .slice none 0 0, .slice none 0 0, .slice none 0 0, [], [], []⟩, ?_, fun _ _ => rfl, fun _ _ _ _ _ => rfl, Nat.le_refl _, Nat.le_refl _, Int.le_refl _⟩
  exact ⟨hlt, fun k hk => absurd rfl hk, by rw [cell_in hh]; rfl, by rw [cell_in hh]; rfl, by rw [cell_in hh]; rfl, by rw [cell_in hh]; rfl, by rw [cell_in hh]; rfl, fun j _ j6 => hc j j6, ⟨rfl, Or.inl ⟨rfl, rfl⟩⟩, ⟨rfl, Or.inl ⟨rfl, rfl⟩⟩, ⟨rfl, Or.inl ⟨rfl, rfl⟩⟩, ⟨rfl, Or.inl ⟨rfl, rfl⟩⟩, fun _ h => (by cases h), fun _ h => (by cases h), fun _ h => (by cases h), fun _ h => (by cases h), fun i e he => (by cases he), fun i e he => (by cases he), fun i e he => (by cases he), Int.le_refl _⟩

set_option maxRecDepth 100000 in
set_option maxHeartbeats 2000000 in
theorem plays_all {B : PB} (hB : PBok B) (hMo : PBmore B) (lo : Int) (hlo : 1 ≤ lo) (a : Option Addr) (n cap : Nat) (w : World) (os : Nat → OpV) (hn : n ≤ 1048576) (ha : n = 0 ∨ ∃ b off, a = some ⟨b, off, none⟩ ∧ OpsIn w (fun k => k < w.heap.size) b off n os) :
    Calls Tryz.prog 7 #[.slice a n cap, .int .i64 lo, .int .i64 11] w fun e w' => e = .returned (.bool true) ∧ Below w.heap.size w w' := by
  go_enter Tryz.func7, Tryz.ntmps7
  go_wp2_with fail
  refine (opening_all _).mono ?_
  rintro e w2 ⟨rfl, h2, hh, hi1, hi2⟩
  have hz : (w.alloc (.cells #[.slice none 0 0, .int .i64 0, .slice none 0 0, .slice none 0 0, .slice none 0 0, .slice none 0 0] 31)).heap.size = w.heap.size + 1 := by simp
  have k2 : Below w.heap.size w w2 := ((Below.refl _ w).alloc (Nat.le_refl _) _).trans (h2.mono (by simp))
  rw [hz] at hh hi1 hi2 ⊢
  have lt2 : w.heap.size + 1 + 3 < w2.heap.size := (Array.getElem?_eq_some_iff.1 hh).1
  have tab0 : Tab B 0 w.heap.size w2.heap.size (.slice none 0 0) [] w2 := tab_start w w2 h2 (by omega)
  have o2 : OpsIn w2 (Old w.heap.size w2.heap.size) (w.heap.size + 1 + 3) 0 12 (opening (w.heap.size + 1 + 1)) := opening_in w2 _ (w.heap.size + 1 + 1) ⟨⟨by omega, by omega⟩, ⟨by omega, by omega⟩, ⟨by omega, by omega⟩⟩ hh hi1 hi2
  have os2 : n = 0 ∨ ∃ b off, a = some ⟨b, off, none⟩ ∧ OpsIn w2 (Old w.heap.size w2.heap.size) b off n os := by
    rcases ha with ha | ⟨b, off, hab, hops⟩
    · exact Or.inl ha
    · refine Or.inr ⟨b, off, hab, OpsIn.mono (hops.kept (S := fun k => w.heap.size ≤ k) ⟨k2.os, k2.tape, k2.output, k2.size, fun k hk _ => k2.block k hk⟩ (fun k hk x => by omega)) (fun k hk => ⟨by omega, by omega⟩)⟩
  have hOld : ∀ k, Old w.heap.size w2.heap.size k → ¬ (k = w.heap.size ∨ w2.heap.size ≤ k) := fun k hk x => by
    rcases x with x | x
    · exact hk.2 x
    · have := hk.1; omega
  clear hh hi1 hi2 h2 ha hz
  generalize opening (w.heap.size + 1 + 1) = hs at o2
  generalize hH : w.heap.size + 1 + 3 = h at o2 lt2 ⊢
  clear hH
  obtain ⟨G, hG⟩ : ∃ G, G = w.heap.size := ⟨_, rfl⟩
  obtain ⟨BA, hBA⟩ : ∃ BA, BA = w2.heap.size := ⟨_, rfl⟩
  have hBG : G < BA := by have := tab0.gb; omega
  go_wp2
  go_loopw [9] (fun i wr => ∃ (k : Nat) (vb : Value) (es : List (Ent B)), k ≤ 12 ∧ i = .int .i64 k ∧ Tab B (k * 1048576) w.heap.size w2.heap.size vb es wr ∧ es.length ≤ k ∧ Kept (fun k => k = w.heap.size ∨ w2.heap.size ≤ k) w2 wr) (fun i _ => 12 - (intOf i).toNat)
  case atStart => exact ⟨0, _, [], by omega, rfl, by rw [Nat.zero_mul]; exact tab0, by simp, Kept.refl _ _⟩
  case round =>
    obtain ⟨k, vb, es, hk, rfl, tx, hes, kx⟩ := hrel
    have ox := o2.kept kx hOld
    by_cases hlt : k < 12
    · obtain ⟨c0, c1, c2, c3, c4, c5, c6, c7⟩ := ox.at k hlt
      have hok := (ox.2.2 k hlt).1
      rw [Nat.zero_add] at c0 c1 c2 c3 c4 c5 c6 c7
      have hlt' : (k : Int) < 12 := by omega
      by_cases h4 : lo ≤ (hs k).k
      · by_cases h8 : (hs k).k ≤ 11
        · go_wp2_with fail
          refine (stepM_any hB hMo tx (hs k) hok (Int.le_trans hlo h4) h8 (by omega) (by unfold maxLen; omega) (by omega)).mono ?_
          rintro e w3 ⟨rfl, vb', es', t3, l3, k3⟩
          have t3 := t3.later hB (m := (k + 1) * 1048576) (by omega)
          have k3' := kx.trans k3
          go_wp2
          go_roundw
          case rel => exact ⟨k + 1, vb', es', by omega, by go_num, t3, by omega, k3'⟩
          case measure => simp [intOf]; omega
        · go_wp2
          go_roundw
          case rel => exact ⟨k + 1, vb, es, by omega, by go_num, tx.later hB (by omega), by omega, kx⟩
          case measure => simp [intOf]; omega
      · go_wp2
        go_roundw
        case rel => exact ⟨k + 1, vb, es, by omega, by go_num, tx.later hB (by omega), by omega, kx⟩
        case measure => simp [intOf]; omega
    · have hge : ¬ (k : Int) < 12 := by omega
      have hes12 : es.length ≤ 12 := by omega
      clear ox tab0 o2 hlt hes
      go_wp2
      obtain ⟨wo, rfl⟩ : ∃ wo : World, wo = wr := ⟨_, rfl⟩
      go_loopw [11] (fun i wx => ∃ (j : Nat) (vb : Value) (es : List (Ent B)), j ≤ n ∧ i = .int .i64 j ∧ Tab B ((12 + j) * 1048576) w.heap.size w2.heap.size vb es wx ∧ es.length ≤ 12 + j ∧ Kept (fun k => k = w.heap.size ∨ w2.heap.size ≤ k) w2 wx) (fun i _ => n - (intOf i).toNat)
      case atStart => exact ⟨0, vb, es, by omega, rfl, tx.later hB (by omega), by omega, kx⟩
      case round =>
        clear tx kx hes12
        obtain ⟨j, vb, es, hj, rfl, ix, hes, kx⟩ := hrel
        have hbel : ∀ W : World, Kept (fun k => k = w.heap.size ∨ w2.heap.size ≤ k) w2 W → Below w.heap.size w W := fun W hW =>
          ⟨hW.os.trans k2.os, hW.tape.trans k2.tape, hW.output.trans k2.output, Nat.le_trans k2.size hW.size, fun q hq => (hW.block q (by omega) (by omega)).trans (k2.block q hq)⟩
        by_cases hjn : j < n ∧ (j : Int) < 1152921504606846976
        · obtain ⟨hjn, h60⟩ := hjn
          have hjn' : (j : Int) < (n : Int) := by omega
          rcases os2 with os2 | ⟨b, off, rfl, ho⟩
          · omega
          · have ox := ho.kept kx hOld
            obtain ⟨c0, c1, c2, c3, c4, c5, c6, c7⟩ := ox.at j hjn
            have hok := fun o => (ox.2.2 j hjn).1.kept (S := fun _ => False) ((Kept.refl _ wr).alloc o) (fun _ _ x => x)
            have tq := fun o => ix.quiet hB ((Kept.refl _ wr).alloc o)
            have kq := fun o => kx.alloc o
            by_cases h4 : lo ≤ (os j).k
            · by_cases h8 : (os j).k ≤ 11
              · have h4' : ¬ (os j).k < lo := by omega
                have h8' : ¬ 11 < (os j).k := by omega
                go_wp2_with fail
                refine (stepM_any hB hMo (tq _) (os j) (hok _) (Int.le_trans hlo h4) h8 (by omega) (by unfold maxLen; omega) (by omega)).mono ?_
                rintro e w3 ⟨rfl, vb', es', t3, l3, k3⟩
                have t3 := t3.later hB (m := (12 + (j + 1)) * 1048576) (by omega)
                have k3' := (kq _).trans k3
                clear k3 hok tq kq ox c0 c1 c2 c3 c4 c5 c6 c7
                by_cases hm : (j : Int) % 3 = 2
                · go_wp2_with fail
                  refine (settle_book hB t3 (by omega)).mono ?_
                  rintro e w4 ⟨rfl, i4, k4⟩
                  have k4' := k3'.trans k4
                  go_wp2_with fail
                  refine (looks_book hB i4 (by omega)).mono ?_
                  rintro e w5 ⟨rfl, i5, k5⟩
                  have k5' := k4'.trans k5
                  go_wp2
                  exact ⟨⟨j + 1, vb', es', by omega, by go_num, i5, by omega, k5'⟩, by simp [intOf]; omega⟩
                · have hm' : ((j : Int) % 3 == 2) = false := by simpa using hm
                  clear hm
                  go_wp2_with fail
                  refine (looks_book hB t3 (by omega)).mono ?_
                  rintro e w5 ⟨rfl, i5, k5⟩
                  have k5' := k3'.trans k5
                  go_wp2
                  exact ⟨⟨j + 1, vb', es', by omega, by go_num, i5, by omega, k5'⟩, by simp [intOf]; omega⟩
              · have h4' : ¬ (os j).k < lo := by omega
                have h8' : 11 < (os j).k := by omega
                go_wp2
                exact ⟨⟨j + 1, vb, es, by omega, by go_num, (tq _).later hB (by omega), by omega, kq _⟩, by simp [intOf]; omega⟩
            · have h4' : (os j).k < lo := by omega
              go_wp2
              exact ⟨⟨j + 1, vb, es, by omega, by go_num, (tq _).later hB (by omega), by omega, kq _⟩, by simp [intOf]; omega⟩
        · by_cases hjn2 : j < n
          · have h60 : ¬ (j : Int) < 1152921504606846976 := fun x => hjn ⟨hjn2, x⟩
            omega
          · have hjn' : ¬ (j : Int) < (n : Int) := by omega
            clear hjn os2
            go_wp2_with fail
            refine (settle_book hB ix (by omega)).mono ?_
            rintro e w4 ⟨rfl, i4, k4⟩
            go_wp2_with fail
            refine (looks_book hB i4 (by omega)).mono ?_
            rintro e w5 ⟨rfl, i5, k5⟩
            have k5' := hbel _ ((kx.trans k4).trans k5)
            go_wp2
            go_ret
            exact ⟨rfl, k5'⟩

end Go.Proofs.YtikdbpphbdbdnaaGreat
