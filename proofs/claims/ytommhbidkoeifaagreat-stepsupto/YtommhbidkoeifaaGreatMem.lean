/- Blocks of memory: what they hold, what stays of them; a new board's state; what Tell tells. -/
import Derived.Test.YtommhbidkoeifaaGreatModel
import Derived.Test.YtommhbidkoeifaaGreatChoose
import Derived.Laws.BytesArg
namespace Go.Proofs.YtommhbidkoeifaaGreat
open Go.RowKit
set_option linter.unusedVariables false

/-- n cells of a block hold F, and may be written. -/
def Raw (g n : Nat) (F : Nat → Value) (w : World) : Prop := ∀ i, i < n → w.cell? ⟨g, i, none⟩ = some (F i) ∧ w.frozen? ⟨g, i, none⟩ = false

theorem Raw.other {g n b j : Nat} {F : Nat → Value} {w : World} (h : Raw g n F w) (hb : b ≠ g) (v : Value) : Raw g n F (w.setCell ⟨b, j, none⟩ v) := fun i hi =>
  ⟨by rw [World.cell?_setCell_other _ _ _ _ (by intro e; exact hb (congrArg Addr.block e))]; exact (h i hi).1, by rw [World.frozen?_setCell]; exact (h i hi).2⟩

theorem Raw.set {g n k : Nat} {F F' : Nat → Value} {w : World} (h : Raw g n F w) (hk : k < n) (v : Value) (he : ∀ i, i < n → F' i = if i = k then v else F i) : Raw g n F' (w.setCell ⟨g, k, none⟩ v) := fun i hi => by
  refine ⟨?_, by rw [World.frozen?_setCell]; exact (h i hi).2⟩
  rw [he i hi]
  by_cases e : i = k
  · subst e
    rw [if_pos rfl, World.cell?_setCell_same _ _ _ (h i hi).1]
  · rw [if_neg e, World.cell?_setCell_other _ _ _ _ (by intro x; exact e (congrArg Addr.off x).symm)]
    exact (h i hi).1

/-- The world is as it was but for the blocks of S; blocks may have come. -/
structure Kept (S : Nat → Prop) (w w' : World) : Prop where
  os : w'.os = w.os
  tape : w'.tape = w.tape
  output : w'.output = w.output
  size : w.heap.size ≤ w'.heap.size
  block : ∀ k, k < w.heap.size → ¬ S k → w'.heap[k]? = w.heap[k]?

theorem Kept.refl (S : Nat → Prop) (w : World) : Kept S w w := ⟨rfl, rfl, rfl, Nat.le_refl _, fun _ _ _ => rfl⟩

theorem Kept.trans {S : Nat → Prop} {a b c : World} (h : Kept S a b) (k : Kept S b c) : Kept S a c :=
  ⟨k.os.trans h.os, k.tape.trans h.tape, k.output.trans h.output, Nat.le_trans h.size k.size, fun i hi hS => (k.block i (Nat.lt_of_lt_of_le hi h.size) hS).trans (h.block i hi hS)⟩

theorem Kept.drewN {S : Nat → Prop} {a w : World} (h : Kept S a w) (n : Nat) : Kept S a (w.drewN n) := ⟨h.os, h.tape, h.output, h.size, h.block⟩
theorem Kept.drew {S : Nat → Prop} {a w : World} (h : Kept S a w) : Kept S a w.drew := ⟨h.os, h.tape, h.output, h.size, h.block⟩

theorem Kept.alloc {S : Nat → Prop} {a w : World} (h : Kept S a w) (o : Obj) : Kept S a (w.alloc o) :=
  ⟨h.os, h.tape, h.output, by rw [World.size_alloc]; exact Nat.le_succ_of_le h.size, fun k hk hS => by rw [Below.heap_alloc w o k (Nat.lt_of_lt_of_le hk h.size)]; exact h.block k hk hS⟩

theorem Kept.setCell {S : Nat → Prop} {a w : World} (h : Kept S a w) {b j : Nat} (hb : S b ∨ a.heap.size ≤ b) (u : Value) : Kept S a (w.setCell ⟨b, j, none⟩ u) :=
  ⟨h.os, h.tape, h.output, by simpa [World.setCell] using h.size, fun k hk hS => by
    rw [Below.heap_setCell w ⟨b, j, none⟩ u k (by rintro rfl; rcases hb with hb | hb; exact hS hb; exact absurd hk (Nat.not_lt.2 hb))]
    exact h.block k hk hS⟩

theorem Kept.below {S : Nat → Prop} {w w' : World} (h : Below w.heap.size w w') : Kept S w w' := ⟨h.os, h.tape, h.output, h.size, fun k hk _ => h.block k hk⟩

theorem Kept.wide {S T : Nat → Prop} {w w' : World} (h : Kept S w w') (hST : ∀ k, S k → T k) : Kept T w w' := ⟨h.os, h.tape, h.output, h.size, fun k hk hT => h.block k hk (fun x => hT (hST k x))⟩

theorem Kept.cell {S : Nat → Prop} {w w' : World} (h : Kept S w w') {b : Nat} (hb : b < w.heap.size) (hS : ¬ S b) (i : Nat) : w'.cell? ⟨b, i, none⟩ = w.cell? ⟨b, i, none⟩ := World.cell?_of_block (w := w) (h.block b hb hS)
theorem Kept.frozen {S : Nat → Prop} {w w' : World} (h : Kept S w w') {b : Nat} (hb : b < w.heap.size) (hS : ¬ S b) (i : Nat) : w'.frozen? ⟨b, i, none⟩ = w.frozen? ⟨b, i, none⟩ := World.frozen?_of_block (w := w) (h.block b hb hS)

theorem lt_of_cell {w : World} {b i : Nat} {v : Value} (h : w.cell? ⟨b, i, none⟩ = some v) : b < w.heap.size := by
  rcases Nat.lt_or_ge b w.heap.size with h1 | h1
  · exact h1
  · have h3 : w.heap[b]? = none := Array.getElem?_eq_none h1
    simp [World.cell?, h3] at h

theorem Raw.lt {g n : Nat} {F : Nat → Value} {w : World} (h : Raw g n F w) (hn : 0 < n) : g < w.heap.size := lt_of_cell (h 0 hn).1

theorem Raw.kept {S : Nat → Prop} {g n : Nat} {F : Nat → Value} {w w' : World} (h : Raw g n F w) (hk : Kept S w w') (hg : g < w.heap.size) (hS : ¬ S g) : Raw g n F w' := fun i hi =>
  ⟨by rw [hk.cell hg hS]; exact (h i hi).1, by rw [hk.frozen hg hS]; exact (h i hi).2⟩

theorem kcell {S : Nat → Prop} {w1 w2 : World} (hk : Kept S w1 w2) {b : Nat} (hb : b < w1.heap.size) (hn : ¬ S b) : (∀ o, w2.cell? ⟨b, o, none⟩ = w1.cell? ⟨b, o, none⟩) ∧ (∀ o, w2.frozen? ⟨b, o, none⟩ = w1.frozen? ⟨b, o, none⟩) :=
  ⟨fun o => hk.cell hb hn o, fun o => hk.frozen hb hn o⟩

/-- What Tell tells. -/
def St.told (st : St) : Value := .agg #[.int .i64 st.a, .int .i64 st.x, .int .i64 st.pc, .bool st.zero, .bool st.carry, .int .i64 st.bank, .int .i64 st.s0, .int .i64 st.s1, .int .i64 st.cause, .int .i64 st.age, .int .i64 st.count, .bool st.flag]

/-- The byte of a text. -/
def byteAt (s : ByteArray) (i : Nat) : Int := ((s.data.toList.getD i 0).toNat : Int)

/-- A new board. -/
def newSt (a b : ByteArray) : St := { mem := fun _ => 0, b0 := byteAt a, b1 := byteAt b, bank := -1, s0 := 0, s1 := 0, cause := 1, left := 4, down := false, a := 0, x := 0, pc := 0, zero := false, carry := false, op := 0, opd := 0, phase := 0, period := 0, count := 0, flag := false, age := 0, window := 0, windowed := false, key := false, out := 0, inp := 0, opn := false, place := 0, rst := 0 }

theorem byteAt_bounds (s : ByteArray) (i : Nat) : 0 ≤ byteAt s i ∧ byteAt s i ≤ 255 := by
  have := (s.data.toList.getD i 0).toNat_lt
  unfold byteAt
  omega

theorem newSt_inv (a b : ByteArray) : Inv (newSt a b) := by
  have z : (0 : Int) ≤ 0 ∧ (0 : Int) ≤ 255 := by decide
  exact { mem := fun _ => z, b0 := byteAt_bounds a, b1 := byteAt_bounds b, bank := (by decide : (-1 : Int) ≤ -1 ∧ (-1 : Int) ≤ 1), cause := (by decide : (0 : Int) ≤ 1 ∧ (1 : Int) ≤ 6), left := (by decide : (0 : Int) ≤ 4 ∧ (4 : Int) ≤ 4), a := z, x := z, pc := z, op := z, opd := z, phase := (by decide : (0 : Int) ≤ 0 ∧ (0 : Int) ≤ 3), period := z, count := z, cnt := fun h => absurd h (by decide : ¬ (0 : Int) < 0), age := (by decide : (0 : Int) ≤ 0 ∧ (0 : Int) ≤ 251), window := (by decide : (0 : Int) ≤ 0 ∧ (0 : Int) ≤ 200), out := z, inp := z, place := (by decide : (0 : Int) ≤ 0 ∧ (0 : Int) ≤ 63), ph2 := fun h => absurd h (by decide : ¬ (0 : Int) = 2), aged := fun h => absurd h (by decide : ¬ (4 : Int) = 0) }

theorem run_bank_at (W : World) (b off cap : Nat) (f : Nat → Int) (hf : ∀ i, 0 ≤ f i ∧ f i ≤ 255) (h : ∀ i, i < 64 → W.cell? ⟨b, off + i, none⟩ = some (.int .u8 (f i))) :
    (convert 72 9 (.slice (some ⟨b, off, none⟩) 64 cap)).run Tryz.prog W = .ok (.string (bankS f)) W := by
  have hl : ((List.range 64).map fun i => UInt8.ofNat (f i).toNat).length = 64 := by simp only [List.length_map, List.length_range]
  have hr := run_convert_bytes_back (P := Tryz.prog) W 72 9 5 ⟨b, off, none⟩ cap ((List.range 64).map fun i => UInt8.ofNat (f i).toNat) Tryz.underlying72 Tryz.underlying5 Tryz.underlying9 (fun j hj => by
    have ha : (⟨b, off, none⟩ : Addr).add j = ⟨b, off + j, none⟩ := by unfold Addr.add; split <;> simp_all
    rw [ha, h j (by omega)]
    simp only [List.getElem_map, List.getElem_range]
    rw [byte_of (f j) (hf j).1 (hf j).2])
  rw [hl] at hr
  exact hr

theorem run_bank (W : World) (b cap : Nat) (f : Nat → Int) (hf : ∀ i, 0 ≤ f i ∧ f i ≤ 255) (h : Raw b 64 (fun i => .int .u8 (f i)) W) :
    (convert 72 9 (.slice (some ⟨b, 0, none⟩) 64 cap)).run Tryz.prog W = .ok (.string (bankS f)) W :=
  run_bank_at W b 0 cap f hf (fun i hi => by rw [Nat.zero_add]; exact (h i hi).1)

end Go.Proofs.YtommhbidkoeifaaGreat
