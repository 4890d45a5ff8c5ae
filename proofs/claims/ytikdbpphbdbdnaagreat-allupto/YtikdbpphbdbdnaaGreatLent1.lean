/- Lists that came out or were handed in: all, sameCycles. -/
import Derived.Test.YtikdbpphbdbdnaaGreatPb
import Derived.Test.YtikdbpphbdbdnaaGreatPairQ
import Derived.Deep.RegionHeld3
namespace Go.Proofs.YtikdbpphbdbdnaaGreat
open Go.RowKit
set_option linter.unusedVariables false

/-- A row of cycles, all of them this one. -/
def Marked (w : World) (b n : Nat) (k : Int) : Prop := ∀ i, i < n → w.cell? ⟨b, i * 4, none⟩ = some (.int .i64 k) ∧ w.cell? ⟨b, i * 4 + 1, none⟩ = some (.int .i64 0) ∧ w.cell? ⟨b, i * 4 + 2, none⟩ = some (.int .u8 0) ∧ w.cell? ⟨b, i * 4 + 3, none⟩ = some (.int .u8 0)

/-- A row of cycles, read. -/
def CysIn (w : World) (b n : Nat) (c : Nat → Cy) : Prop := ∀ i, i < n → w.cell? ⟨b, i * 4, none⟩ = some (.int .i64 (c i).kind) ∧ w.cell? ⟨b, i * 4 + 1, none⟩ = some (.int .i64 (c i).addr) ∧ w.cell? ⟨b, i * 4 + 2, none⟩ = some (.int .u8 (c i).data) ∧ w.cell? ⟨b, i * 4 + 3, none⟩ = some (.int .u8 (c i).out)

theorem Marked.same {w w' : World} {b n : Nat} {k : Int} (h : Marked w b n k) (e : w'.heap[b]? = w.heap[b]?) : Marked w' b n k := fun i hi => by
  obtain ⟨h0, h1, h2, h3⟩ := h i hi
  exact ⟨(World.cell?_of_block (w := w) e).trans h0, (World.cell?_of_block (w := w) e).trans h1, (World.cell?_of_block (w := w) e).trans h2, (World.cell?_of_block (w := w) e).trans h3⟩

theorem CysIn.same {w w' : World} {b n : Nat} {c : Nat → Cy} (h : CysIn w b n c) (e : w'.heap[b]? = w.heap[b]?) : CysIn w' b n c := fun i hi => by
  obtain ⟨h0, h1, h2, h3⟩ := h i hi
  exact ⟨(World.cell?_of_block (w := w) e).trans h0, (World.cell?_of_block (w := w) e).trans h1, (World.cell?_of_block (w := w) e).trans h2, (World.cell?_of_block (w := w) e).trans h3⟩

theorem CysAt.read {w : World} {b n : Nat} {c : Nat → Cy} (h : CysAt w b n c) : CysIn w b n c := fun j hj => by
  have e : ∀ t, t < 4 → w.cell? ⟨b, j * 4 + t, none⟩ = some (cyCell (c j) t) := fun t ht => by
    have q := (h (j * 4 + t) (by omega)).1
    dsimp only at q
    rw [show (j * 4 + t) / 4 = j by omega, show (j * 4 + t) % 4 = t by omega] at q
    exact q
  exact ⟨e 0 (by omega), e 1 (by omega), e 2 (by omega), e 3 (by omega)⟩

set_option maxRecDepth 100000 in
set_option maxHeartbeats 1000000 in
theorem all_any (w : World) (b n cap : Nat) (k : Int) (hn : n ≤ maxLen) (hb : b < w.heap.size) (h : Marked w b n k) :
    Calls Tryz.prog 20 #[.slice (some ⟨b, 0, none⟩) n cap, .agg #[.int .i64 k, .int .i64 0, .int .u8 0, .int .u8 0]] w fun e w' => e = .returned (.bool true) ∧ Below w.heap.size w w' := by
  unfold maxLen at hn
  go_enter Tryz.func20, Tryz.ntmps20
  go_wp2
  obtain ⟨W0, hW0⟩ : ∃ W0 : World, W0 = w.alloc (.cells #[.int .i64 k, .int .i64 0, .int .u8 0, .int .u8 0] 54) := ⟨_, rfl⟩
  have z0 : W0.heap.size = w.heap.size + 1 := by rw [hW0, World.size_alloc]
  have m0 : Marked W0 b n k := h.same (by rw [hW0]; exact Below.heap_alloc _ _ _ hb)
  have bw : Below w.heap.size w W0 := by rw [hW0]; exact (Below.refl _ w).alloc (Nat.le_refl _) _
  have c0 : W0.cell? ⟨w.heap.size, 0, none⟩ = some (.int .i64 k) ∧ W0.cell? ⟨w.heap.size, 1, none⟩ = some (.int .i64 0) ∧ W0.cell? ⟨w.heap.size, 2, none⟩ = some (.int .u8 0) ∧ W0.cell? ⟨w.heap.size, 3, none⟩ = some (.int .u8 0) := by
    rw [hW0]
    exact ⟨by simp [go_sem], by simp [go_sem], by simp [go_sem], by simp [go_sem]⟩
  rw [← hW0]
  clear hW0 h
  go_loopw [5] (fun i wx => ∃ j : Nat, j ≤ n ∧ i = .int .i64 j ∧ Kept (fun _ => False) W0 wx) (fun i _ => n - (intOf i).toNat)
  case atStart => exact ⟨0, by omega, rfl, Kept.refl _ _⟩
  case round =>
    obtain ⟨j, hj, rfl, hk⟩ := hrel
    by_cases hjn : j < n
    · have hjn' : (j : Int) < (n : Int) := by omega
      obtain ⟨d0, d1, d2, d3⟩ := m0 j hjn
      have HSx : Hid (∀ W : World, Kept (fun _ => False) W0 W → W.cell? ⟨b, j * 4, none⟩ = some (.int .i64 k) ∧ W.cell? ⟨b, j * 4 + 1, none⟩ = some (.int .i64 0) ∧ W.cell? ⟨b, j * 4 + 2, none⟩ = some (.int .u8 0) ∧ W.cell? ⟨b, j * 4 + 3, none⟩ = some (.int .u8 0) ∧ W.cell? ⟨w.heap.size, 0, none⟩ = some (.int .i64 k) ∧ W.cell? ⟨w.heap.size, 1, none⟩ = some (.int .i64 0) ∧ W.cell? ⟨w.heap.size, 2, none⟩ = some (.int .u8 0) ∧ W.cell? ⟨w.heap.size, 3, none⟩ = some (.int .u8 0)) := fun W hW =>
        ⟨by rw [hW.cell (b := b) (by omega) (fun x => x)]; exact d0, by rw [hW.cell (b := b) (by omega) (fun x => x)]; exact d1, by rw [hW.cell (b := b) (by omega) (fun x => x)]; exact d2, by rw [hW.cell (b := b) (by omega) (fun x => x)]; exact d3,
          by rw [hW.cell (b := w.heap.size) (by omega) (fun x => x)]; exact c0.1, by rw [hW.cell (b := w.heap.size) (by omega) (fun x => x)]; exact c0.2.1, by rw [hW.cell (b := w.heap.size) (by omega) (fun x => x)]; exact c0.2.2.1, by rw [hW.cell (b := w.heap.size) (by omega) (fun x => x)]; exact c0.2.2.2⟩
      clear d0 d1 d2 d3 c0 m0
      go_wp2
      go_region_held3 (fun W => W.cell? ⟨b, j * 4, none⟩ = some (.int .i64 k) ∧ W.cell? ⟨b, j * 4 + 1, none⟩ = some (.int .i64 0) ∧ W.cell? ⟨b, j * 4 + 2, none⟩ = some (.int .u8 0) ∧ W.cell? ⟨b, j * 4 + 3, none⟩ = some (.int .u8 0) ∧ W.cell? ⟨w.heap.size, 0, none⟩ = some (.int .i64 k) ∧ W.cell? ⟨w.heap.size, 1, none⟩ = some (.int .i64 0) ∧ W.cell? ⟨w.heap.size, 2, none⟩ = some (.int .u8 0) ∧ W.cell? ⟨w.heap.size, 3, none⟩ = some (.int .u8 0)) (first | exact HSx.out _ hk.drew) (first | fail)
      all_goals
        go_wp2
        exact ⟨⟨j + 1, by omega, by go_num, hk.drew⟩, by simp [intOf]; omega⟩
    · have hjn' : ¬ (j : Int) < (n : Int) := by omega
      go_wp2
      go_ret
      exact ⟨rfl, bw.trans ⟨hk.os, hk.tape, hk.output, hk.size, fun q hq => hk.block q (by omega) (fun x => x)⟩⟩

set_option maxRecDepth 100000 in
set_option maxHeartbeats 1000000 in
theorem same_any (w : World) (a : Nat) (ob : Option Addr) (n ca cb : Nat) (c : Nat → Cy) (hn : n ≤ maxLen) (ha : a < w.heap.size) (h1 : CysIn w a n c) (h2 : n = 0 ∨ ∃ b, ob = some ⟨b, 0, none⟩ ∧ b < w.heap.size ∧ CysIn w b n c) :
    Calls Tryz.prog 19 #[.slice (some ⟨a, 0, none⟩) n ca, .slice ob n cb] w fun e w' => e = .returned (.bool true) ∧ Kept (fun _ => False) w w' := by
  unfold maxLen at hn
  go_enter Tryz.func19, Tryz.ntmps19
  go_wp2
  go_loopw [5] (fun i wx => ∃ j : Nat, j ≤ n ∧ i = .int .i64 j ∧ Kept (fun _ => False) w wx) (fun i _ => n - (intOf i).toNat)
  case atStart => exact ⟨0, by omega, rfl, Kept.refl _ _⟩
  case round =>
    obtain ⟨j, hj, rfl, hk⟩ := hrel
    by_cases hjn : j < n
    · have hjn' : (j : Int) < (n : Int) := by omega
      rcases h2 with h2 | ⟨b, rfl, hb, h2⟩
      · omega
      obtain ⟨d0, d1, d2, d3⟩ := h1 j hjn
      obtain ⟨e0, e1, e2, e3⟩ := h2 j hjn
      generalize c j = C at d0 d1 d2 d3 e0 e1 e2 e3
      obtain ⟨ck, ca, cd, co⟩ := C
      have HSx : Hid (∀ W : World, Kept (fun _ => False) w W → W.cell? ⟨a, j * 4, none⟩ = some (.int .i64 ck) ∧ W.cell? ⟨a, j * 4 + 1, none⟩ = some (.int .i64 ca) ∧ W.cell? ⟨a, j * 4 + 2, none⟩ = some (.int .u8 cd) ∧ W.cell? ⟨a, j * 4 + 3, none⟩ = some (.int .u8 co) ∧ W.cell? ⟨b, j * 4, none⟩ = some (.int .i64 ck) ∧ W.cell? ⟨b, j * 4 + 1, none⟩ = some (.int .i64 ca) ∧ W.cell? ⟨b, j * 4 + 2, none⟩ = some (.int .u8 cd) ∧ W.cell? ⟨b, j * 4 + 3, none⟩ = some (.int .u8 co)) := fun W hW =>
        ⟨by rw [hW.cell (b := a) ha (fun x => x)]; exact d0, by rw [hW.cell (b := a) ha (fun x => x)]; exact d1, by rw [hW.cell (b := a) ha (fun x => x)]; exact d2, by rw [hW.cell (b := a) ha (fun x => x)]; exact d3,
          by rw [hW.cell (b := b) hb (fun x => x)]; exact e0, by rw [hW.cell (b := b) hb (fun x => x)]; exact e1, by rw [hW.cell (b := b) hb (fun x => x)]; exact e2, by rw [hW.cell (b := b) hb (fun x => x)]; exact e3⟩
      clear d0 d1 d2 d3 e0 e1 e2 e3 h1 h2
      go_wp2
      go_region_held3 (fun W => W.cell? ⟨a, j * 4, none⟩ = some (.int .i64 ck) ∧ W.cell? ⟨a, j * 4 + 1, none⟩ = some (.int .i64 ca) ∧ W.cell? ⟨a, j * 4 + 2, none⟩ = some (.int .u8 cd) ∧ W.cell? ⟨a, j * 4 + 3, none⟩ = some (.int .u8 co) ∧ W.cell? ⟨b, j * 4, none⟩ = some (.int .i64 ck) ∧ W.cell? ⟨b, j * 4 + 1, none⟩ = some (.int .i64 ca) ∧ W.cell? ⟨b, j * 4 + 2, none⟩ = some (.int .u8 cd) ∧ W.cell? ⟨b, j * 4 + 3, none⟩ = some (.int .u8 co)) (first | exact HSx.out _ hk.drew) (first | fail)
      all_goals
        go_wp2
        exact ⟨⟨j + 1, by omega, by go_num, hk.drew⟩, by simp [intOf]; omega⟩
    · have hjn' : ¬ (j : Int) < (n : Int) := by omega
      go_wp2
      go_ret
      exact ⟨rfl, hk⟩

/-- A row of inputs that was lent: the inputs, and more behind them. -/
def lentIn (ins : Nat → In) (n i : Nat) : In := if i < n then ins i else ⟨false, 77, 0⟩

/-- An input's cells. -/
def inCell (x : In) : Nat → Value
  | 0 => .bool x.reset
  | 1 => .int .i64 x.volts
  | _ => .int .u8 x.port

/-- n inputs in memory, ready to be written. -/
def InsRaw (w : World) (b n : Nat) (x : Nat → In) : Prop := Raw b (n * 3) (fun k => inCell (x (k / 3)) (k % 3)) w

/-- One element of three cells has turned. -/
theorem raw_put3 {b m i : Nat} {F F' : Nat → Value} {w : World} (h : Raw b (m * 3) F w) (hi : i < m) (c : Nat → Value) (hF : ∀ k, k < m * 3 → F' k = if k / 3 = i then c (k % 3) else F k) : Raw b (m * 3) F' (((w.setCell ⟨b, i * 3, none⟩ (c 0)).setCell ⟨b, i * 3 + 1, none⟩ (c 1)).setCell ⟨b, i * 3 + 2, none⟩ (c 2)) := by
  have h1 := Raw.set (F' := fun k => if k = i * 3 then c 0 else F k) h (k := i * 3) (by omega) (c 0) (fun _ _ => rfl)
  have h2 := Raw.set (F' := fun k => if k = i * 3 + 1 then c 1 else if k = i * 3 then c 0 else F k) h1 (k := i * 3 + 1) (by omega) (c 1) (fun _ _ => rfl)
  refine Raw.set h2 (k := i * 3 + 2) (by omega) (c 2) (fun k hk => ?_)
  rw [hF k hk]
  by_cases e : k / 3 = i
  · rw [if_pos e]
    rcases (by omega : k = i * 3 ∨ k = i * 3 + 1 ∨ k = i * 3 + 2) with x | x | x
    · rw [show k % 3 = 0 by omega, if_neg (by omega), if_neg (by omega), if_pos x]
    · rw [show k % 3 = 1 by omega, if_neg (by omega), if_pos x]
    · rw [show k % 3 = 2 by omega, if_pos x]
  · rw [if_neg e, if_neg (by omega), if_neg (by omega), if_neg (by omega)]

/-- copy(out, l): elements of several cells. -/
theorem run_copy_wide {P : Program} (w : World) (dT sT ty elem : TypeId) (size g o dLen dCap : Nat) (a : Addr) (sLen sCap : Nat) (cur : Array Value) (t : TypeId) (cs : List Value)
    (hu : P.underlying dT = some (.slice elem)) (hs : (P.info? elem).map (·.size) = some size)
    (hg : w.heap[g]? = some (.cells cur t (0, 0))) (hn : cs.length = Nat.min sLen dLen * size)
    (hsrc : ∀ j v, cs[j]? = some v → w.cell? (a.add j) = some v) (hfit : o + cs.length ≤ cur.size) (h1 : ∀ v ∈ cs, v.oneCell' = true) :
    (Builtin.copy_ #[dT, sT] ty #[.slice (some ⟨g, o, none⟩) dLen dCap, .slice (some a) sLen sCap]).run P w =
      .ok (goInt (Nat.min sLen dLen)) (w.setRow g (cur.toList.take o ++ cs ++ cur.toList.drop (o + cs.length)).toArray) := by
  have hst := run_storeCells_at P g o t cs 0 cur w hg (by simpa using hfit) h1
  cases hq : P.info? elem with
  | none => simp [hq] at hs
  | some i =>
    have hi : i.size = size := by simpa [hq] using hs
    have hf := run_firstCells_some (P := P) w i.size (Nat.min sLen dLen) a sLen sCap cs (by rw [hi]; exact hn) hsrc
    simp [Builtin.copy_, run_underlying hu, Builtin.lenOf, sizeOf, typeInfo, hq, hf, hst]

theorem run_makeIn (w : World) (m : Nat) (hm : m ≤ 5864062014805) : (Instr.makeSlice 34 (.int .i64 (m : Int)) (.int .i64 (m : Int))).run Tryz.prog w = .ok (.slice (some ⟨w.heap.size, 0, none⟩) m m) (w.alloc (.cells (madeCells #[.bool false, .int .i64 0, .int .u8 0] (m * 3)) 40)) := by
  have hq : (Tryz.prog.info? 40).map (fun i => (i.size, i.bytes, i.zero.map (·.cells))) = some (3, 24, some #[.bool false, .int .i64 0, .int .u8 0]) := by kernel_rfl
  obtain ⟨i, hi, h2⟩ := Option.map_eq_some_iff.1 hq
  simp only [Prod.mk.injEq] at h2
  obtain ⟨h3, h4, h5⟩ := h2
  obtain ⟨z, hz, hc⟩ := Option.map_eq_some_iff.1 h5
  have h := run_make (P := Tryz.prog) w 34 40 i z Tryz.underlying34 hi hz .i64 .i64 (m : Int) (m : Int) (by omega) (Int.le_refl _) (by rw [h4]; omega) (by omega)
  rw [hc, h3, Int.toNat_natCast] at h
  exact h

theorem size_input : (Tryz.prog.info? 40).map (·.size) = some 3 := by kernel_rfl

/-- The cells of some inputs, one behind the other. -/
def insCells (ins : Nat → In) (n : Nat) : List Value := (List.range (n * 3)).map fun k => inCell (ins (k / 3)) (k % 3)

theorem insCells_len (ins : Nat → In) (n : Nat) : (insCells ins n).length = n * 3 := by unfold insCells; simp

theorem insCells_one (ins : Nat → In) (n : Nat) : ∀ v ∈ insCells ins n, v.oneCell' = true := fun v hv => by
  unfold insCells at hv
  obtain ⟨k, _, rfl⟩ := List.mem_map.1 hv
  have : k % 3 = 0 ∨ k % 3 = 1 ∨ k % 3 = 2 := by omega
  rcases this with h | h | h <;> rw [h] <;> rfl

theorem insCells_at {w : World} {b off n : Nat} {ins : Nat → In} (h : InsAt w b off n ins) : ∀ j v, (insCells ins n)[j]? = some v → w.cell? ((⟨b, off, none⟩ : Addr).add j) = some v := fun j v hv => by
  have hj : j < n * 3 := by have := (List.getElem?_eq_some_iff.1 hv).1; rw [insCells_len] at this; exact this
  unfold insCells at hv
  rw [List.getElem?_map, List.getElem?_range hj] at hv
  have hv' : inCell (ins (j / 3)) (j % 3) = v := by simpa using hv
  obtain ⟨_, _, h0, h1, h2⟩ := h (j / 3) (by omega)
  have ha : (⟨b, off, none⟩ : Addr).add j = ⟨b, off + j, none⟩ := by unfold Addr.add; split <;> simp_all
  rw [ha, ← hv']
  have : j % 3 = 0 ∨ j % 3 = 1 ∨ j % 3 = 2 := by omega
  rcases this with e | e | e
  · rw [e, show off + j = off + j / 3 * 3 by omega]; exact h0
  · rw [e, show off + j = off + j / 3 * 3 + 1 by omega]; exact h1
  · rw [e, show off + j = off + j / 3 * 3 + 2 by omega]; exact h2

/-- What lies in the new row while it is filled. -/
def fillIn (ins : Nat → In) (n j i : Nat) : In := if i < n then ins i else if i < j then ⟨false, 77, 0⟩ else ⟨false, 0, 0⟩

theorem madeIn (n k : Nat) (hk : k < n * 3) : (madeCells #[Value.bool false, .int .i64 0, .int .u8 0] (n * 3))[k]? = some (inCell ⟨false, 0, 0⟩ (k % 3)) := by
  unfold madeCells
  rw [Array.getElem?_map, Array.getElem?_range, if_pos hk]
  have h4 : k % 3 < 3 := Nat.mod_lt _ (by omega)
  show some (#[Value.bool false, .int .i64 0, .int .u8 0][k % 3]!) = _
  rcases (by omega : k % 3 = 0 ∨ k % 3 = 1 ∨ k % 3 = 2) with h | h | h <;> rw [h] <;> rfl

theorem madeIn_size (n : Nat) : (madeCells #[Value.bool false, .int .i64 0, .int .u8 0] (n * 3)).size = n * 3 := by unfold madeCells; simp

/-- Behind the copy. -/
theorem filled (w : World) (n : Nat) (ins : Nat → In) : InsRaw ((w.alloc (.cells (madeCells #[.bool false, .int .i64 0, .int .u8 0] ((n + 8) * 3)) 40)).setRow w.heap.size ((madeCells #[Value.bool false, .int .i64 0, .int .u8 0] ((n + 8) * 3)).toList.take 0 ++ insCells ins n ++ (madeCells #[Value.bool false, .int .i64 0, .int .u8 0] ((n + 8) * 3)).toList.drop (0 + (insCells ins n).length)).toArray) w.heap.size (n + 8) (fillIn ins n n) := fun k hk => by
  have g0 := setRow_heap _ w.heap.size _ ((madeCells #[Value.bool false, .int .i64 0, .int .u8 0] ((n + 8) * 3)).toList.take 0 ++ insCells ins n ++ (madeCells #[Value.bool false, .int .i64 0, .int .u8 0] ((n + 8) * 3)).toList.drop (0 + (insCells ins n).length)).toArray _ _ (heap_new w (.cells (madeCells #[.bool false, .int .i64 0, .int .u8 0] ((n + 8) * 3)) 40))
  refine ⟨?_, ?_⟩
  · simp only [World.cell?, g0]
    rw [if_neg (by simp)]
    simp only [List.take_zero, List.nil_append, Nat.zero_add, List.getElem?_toArray]
    by_cases h : k < n * 3
    · rw [List.getElem?_append_left (by rw [insCells_len]; exact h)]
      unfold insCells
      rw [List.getElem?_map, List.getElem?_range h]
      unfold fillIn
      rw [if_pos (by omega)]
      rfl
    · rw [List.getElem?_append_right (by rw [insCells_len]; omega), List.getElem?_drop, insCells_len, show n * 3 + (k - n * 3) = k by omega, Array.getElem?_toList, madeIn (n + 8) k hk]
      unfold fillIn
      rw [if_neg (by omega), if_neg (by omega)]
  · simp only [World.frozen?, g0]
    simp

theorem setRow_size (w : World) (g : Nat) (cs : Array Value) : (w.setRow g cs).heap.size = w.heap.size := by unfold World.setRow; simp

theorem setRow_other (w : World) (g : Nat) (cs : Array Value) (k : Nat) (hk : k ≠ g) : (w.setRow g cs).heap[k]? = w.heap[k]? := by
  unfold World.setRow
  simp only [Array.getElem?_modify]
  rw [if_neg (fun e => hk e.symm)]

theorem eql_nil (w : World) (a : Option Addr) (l c : Nat) : (binOp .eql 34 (.slice a l c) (.slice none 0 0)).run Tryz.prog w = .ok (.bool a.isNone) w := by
  simp [binOp, run_equal_slice_nil w 34 40 a l c Tryz.underlying34]

set_option maxRecDepth 100000 in
set_option maxHeartbeats 1000000 in
theorem lent_nil (w : World) (ll lc : Nat) : Calls Tryz.prog 31 #[.slice none ll lc] w fun e w' => e = .returned (.slice none 0 0) ∧ w' = w := by
  have hq := fun w => eql_nil w none ll lc
  go_enter Tryz.func31, Tryz.ntmps31
  go_wp2
  go_ret
  exact ⟨rfl, rfl⟩

set_option maxRecDepth 100000 in
set_option maxHeartbeats 1000000 in
theorem lent_any (w : World) (a : Addr) (n lc : Nat) (ins : Nat → In) (hn : n ≤ 1048576) (h : n = 0 ∨ ∃ b off, a = ⟨b, off, none⟩ ∧ b < w.heap.size ∧ InsAt w b off n ins) :
    Calls Tryz.prog 31 #[.slice (some a) n lc] w fun e w' => e = .returned (.slice (some ⟨w.heap.size, 0, none⟩) n (n + 8)) ∧ InsRaw w' w.heap.size (n + 8) (lentIn ins n) ∧ w.heap.size < w'.heap.size ∧ Below w.heap.size w w' := by
  have hq := fun w => eql_nil w (some a) n lc
  have hmk : (Instr.makeSlice 34 (.int .i64 ((n : Int) + 8)) (.int .i64 ((n : Int) + 8))).run Tryz.prog w = .ok (.slice (some ⟨w.heap.size, 0, none⟩) (n + 8) (n + 8)) (w.alloc (.cells (madeCells #[.bool false, .int .i64 0, .int .u8 0] ((n + 8) * 3)) 40)) := run_makeIn w (n + 8) (by omega)
  obtain ⟨W1, hW1⟩ : ∃ W1, W1 = w.alloc (.cells (madeCells #[.bool false, .int .i64 0, .int .u8 0] ((n + 8) * 3)) 40) := ⟨_, rfl⟩
  have hh : W1.heap[w.heap.size]? = some (.cells (madeCells #[.bool false, .int .i64 0, .int .u8 0] ((n + 8) * 3)) 40 (0, 0)) := by rw [hW1]; exact heap_new _ _
  have hi1 : ∀ j v, (insCells ins n)[j]? = some v → W1.cell? (a.add j) = some v := by
    rcases h with h | ⟨b, off, rfl, hb, h⟩
    · intro j v hv
      have := (List.getElem?_eq_some_iff.1 hv).1
      rw [insCells_len] at this
      omega
    · refine insCells_at ?_
      rw [hW1]
      exact h.kept (S := fun _ => False) ((Kept.refl _ w).alloc _) hb (fun x => x)
  have hcp := run_copy_wide (P := Tryz.prog) W1 34 34 3 40 3 w.heap.size 0 (n + 8) (n + 8) a n lc _ 40 (insCells ins n) Tryz.underlying34 size_input hh (by rw [insCells_len, show Nat.min n (n + 8) = n from Nat.min_eq_left (by omega)]) hi1 (by rw [insCells_len, madeIn_size]; omega) (insCells_one ins n)
  rw [show Nat.min n (n + 8) = n from Nat.min_eq_left (by omega)] at hcp
  obtain ⟨W2, hW2⟩ : ∃ W2, W2 = W1.setRow w.heap.size ((madeCells #[Value.bool false, .int .i64 0, .int .u8 0] ((n + 8) * 3)).toList.take 0 ++ insCells ins n ++ (madeCells #[Value.bool false, .int .i64 0, .int .u8 0] ((n + 8) * 3)).toList.drop (0 + (insCells ins n).length)).toArray := ⟨_, rfl⟩
  have r2 : InsRaw W2 w.heap.size (n + 8) (fillIn ins n n) := by rw [hW2, hW1]; exact filled w n ins
  have z2 : W2.heap.size = w.heap.size + 1 := by rw [hW2, setRow_size, hW1, World.size_alloc]
  have b2 : Below w.heap.size w W2 := by
    refine ⟨by rw [hW2, hW1]; rfl, by rw [hW2, hW1]; rfl, by rw [hW2, hW1]; rfl, by omega, fun k hk => ?_⟩
    rw [hW2, setRow_other _ _ _ _ (by omega), hW1]
    exact Below.heap_alloc _ _ _ hk
  rw [← hW2] at hcp
  rw [← hW1] at hmk
  clear hW2 hW1 hh hi1
  go_enter Tryz.func31, Tryz.ntmps31
  go_wp2
  go_loopw [5] (fun t wx => ∃ j : Nat, n ≤ j ∧ j ≤ n + 8 ∧ t = .int .i64 j ∧ InsRaw wx w.heap.size (n + 8) (fillIn ins n j) ∧ w.heap.size < wx.heap.size ∧ Below w.heap.size w wx) (fun t _ => n + 8 - (intOf t).toNat)
  case atStart => exact ⟨n, by omega, by omega, rfl, r2, by omega, b2⟩
  case round =>
    obtain ⟨j, hj, hj8, rfl, hr, hz, hbw⟩ := hrel
    clear r2 z2 b2 hcp hmk
    by_cases hjn : j < n + 8
    · have hjn' : (j : Int) < (n : Int) + 8 := by omega
      obtain ⟨a0, f0⟩ := hr (j * 3) (by omega)
      obtain ⟨a1, f1⟩ := hr (j * 3 + 1) (by omega)
      obtain ⟨a2, f2⟩ := hr (j * 3 + 2) (by omega)
      have fin : InsRaw (((wr.setCell ⟨w.heap.size, j * 3, none⟩ (.bool false)).setCell ⟨w.heap.size, j * 3 + 1, none⟩ (.int .i64 77)).setCell ⟨w.heap.size, j * 3 + 2, none⟩ (.int .u8 0)) w.heap.size (n + 8) (fillIn ins n (j + 1)) := by
        refine raw_put3 hr hjn (inCell ⟨false, 77, 0⟩) fun k hk => ?_
        unfold fillIn
        by_cases e : k / 3 = j
        · rw [if_pos e, if_neg (by omega), if_pos (by omega)]
        · rw [if_neg e]
          by_cases e1 : k / 3 < n
          · rw [if_pos e1, if_pos e1]
          · rw [if_neg e1, if_neg e1]
            by_cases e2 : k / 3 < j
            · rw [if_pos (by omega), if_pos e2]
            · rw [if_neg (by omega), if_neg e2]
      have hbx : Below w.heap.size w (((wr.setCell ⟨w.heap.size, j * 3, none⟩ (.bool false)).setCell ⟨w.heap.size, j * 3 + 1, none⟩ (.int .i64 77)).setCell ⟨w.heap.size, j * 3 + 2, none⟩ (.int .u8 0)) := ((hbw.setCell (Nat.le_refl _) _).setCell (Nat.le_refl _) _).setCell (Nat.le_refl _) _
      clear hr hbw
      go_wp2
      exact ⟨⟨j + 1, by omega, by omega, by go_num, fin, by simpa using hz, hbx⟩, by simp [intOf]; omega⟩
    · have hjn' : ¬ (j : Int) < (n : Int) + 8 := by omega
      have hje : j = n + 8 := by omega
      go_wp2
      go_ret
      refine ⟨rfl, ?_, hz, hbw⟩
      intro k hk
      have h1 := hr k hk
      have e : fillIn ins n j (k / 3) = lentIn ins n (k / 3) := by
        unfold fillIn lentIn
        by_cases e1 : k / 3 < n
        · rw [if_pos e1, if_pos e1]
        · rw [if_neg e1, if_neg e1, if_pos (by omega)]
      show wr.cell? ⟨w.heap.size, k, none⟩ = some (inCell (lentIn ins n (k / 3)) (k % 3)) ∧ _
      rw [← e]
      exact h1

end Go.Proofs.YtikdbpphbdbdnaaGreat
