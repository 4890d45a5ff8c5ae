/- What the keeps are handed, read out of memory: two programs, two numbers, some parts. -/
import Derived.Test.YtikdbpphbdbdnaaRows
import Derived.Test.YtikdbpphbdbdnaaKa
import Derived.ProofKit
import Derived.OpenShut
import Derived.ChangeOld
import Derived.Below
import Derived.Deep.Slices
import Derived.SizedLaws
namespace Go.Proofs.Ytikdbpphbdbdnaa
open Go.ChangeShapes Go.WideShapes Go.ChangeAt Go.RowKit
set_option linter.unusedVariables false

theorem ownK : ownKnob Try.prog.godebug = none := by kernel_rfl
theorem laidOutK : laidOutB Try.prog = true := by kernel_rfl

theorem cK_int : Try.prog.cellsOf 3 = 1 := by kernel_rfl
theorem cK_bool : Try.prog.cellsOf 4 = 1 := by kernel_rfl
theorem cK_u8 : Try.prog.cellsOf 5 = 1 := by kernel_rfl
theorem cK_input : Try.prog.cellsOf 37 = 3 := by kernel_rfl
theorem cK_part : Try.prog.cellsOf 57 = 4 := by kernel_rfl
theorem bK_part : Try.prog.bytesOf 57 = 32 := by kernel_rfl
theorem bK_input : Try.prog.bytesOf 37 = 24 := by kernel_rfl

theorem listK4 {α : Type} {l : List α} (h : l.length = 4) : ∃ a b c d, l = [a, b, c, d] := by
  match l, h with
  | [a, b, c, d], _ => exact ⟨a, b, c, d, rfl⟩

theorem listK3 {α : Type} {l : List α} (h : l.length = 3) : ∃ a b c, l = [a, b, c] := by
  match l, h with
  | [a, b, c], _ => exact ⟨a, b, c, rfl⟩

theorem someK {α : Type} {l : List α} {n i : Nat} (h : l.length = n) (hi : i < n) : ∃ x, l[i]? = some x := ⟨l[i], List.getElem?_eq_getElem (by omega)⟩

theorem addK (b o k : Nat) : (⟨b, o, none⟩ : Addr).add k = ⟨b, o + k, none⟩ := by unfold Addr.add; split <;> simp_all

theorem wfK64 {n : Int} (h : (Lit.int .i64 n).wf = true) : -9223372036854775808 ≤ n ∧ n ≤ 9223372036854775807 := by
  simp only [Lit.wf, Bool.and_eq_true, decide_eq_true_eq] at h
  exact h

theorem wfK8 {n : Int} (h : (Lit.int .u8 n).wf = true) : 0 ≤ n ∧ n ≤ 255 := by
  simp only [Lit.wf, Bool.and_eq_true, decide_eq_true_eq] at h
  exact h

section
variable {H : Type} {enc : TypeId × Value → H} {w : World} {base : Nat} {spare : Nat → Bool} {held : Bool}

theorem open_inK {fuel : Nat} {cs : List Value} {x : DataW H × List MemPlace} (h : DataW.trod enc Try.prog w base spare held fuel 37 cs = some x) :
    ∃ rs v p, cs = [.bool rs, .int .i64 v, .int .u8 p] ∧ 0 ≤ p ∧ p ≤ 255 := by
  obtain ⟨xs, n, _, _, hl, hx, hf⟩ := DataW.trod_struct Try.underlying37 h
  rw [cK_input] at hl
  obtain ⟨v0, v1, v2, rfl⟩ := listK3 hl
  have hx3 : xs.length = 3 := hx
  obtain ⟨x0, e0⟩ := someK (i := 0) hx3 (by omega)
  obtain ⟨x1, e1⟩ := someK (i := 1) hx3 (by omega)
  obtain ⟨x2, e2⟩ := someK (i := 2) hx3 (by omega)
  have f0 : DataW.trod enc Try.prog w base spare held n 4 (([v0, v1, v2].drop 0).take (Try.prog.cellsOf 4)) = xs[0]? := hf 0 _ rfl
  have f1 : DataW.trod enc Try.prog w base spare held n 3 (([v0, v1, v2].drop 1).take (Try.prog.cellsOf 3)) = xs[1]? := hf 1 _ rfl
  have f2 : DataW.trod enc Try.prog w base spare held n 5 (([v0, v1, v2].drop 2).take (Try.prog.cellsOf 5)) = xs[2]? := hf 2 _ rfl
  rw [e0, cK_bool] at f0
  rw [e1, cK_int] at f1
  rw [e2, cK_u8] at f2
  obtain ⟨n0, g0, _⟩ := DataW.trod_bool Try.underlying4 f0
  obtain ⟨n1, g1, _⟩ := DataW.trod_int Try.underlying3 f1
  obtain ⟨n2, g2, _, h2⟩ := DataW.trod_int Try.underlying5 f2
  simp at g0 g1 g2
  subst g0 g1 g2
  exact ⟨n0, n1, n2, rfl, (wfK8 h2).1, (wfK8 h2).2⟩

theorem open_partK {fuel : Nat} {cs : List Value} {x : DataW H × List MemPlace} (h : DataW.trod enc Try.prog w base spare held fuel 57 cs = some x) :
    ∃ t rs v p, cs = [.int .i64 t, .bool rs, .int .i64 v, .int .u8 p] ∧ -9223372036854775808 ≤ t ∧ t ≤ 9223372036854775807 ∧ 0 ≤ p ∧ p ≤ 255 := by
  obtain ⟨xs, n, _, _, hl, hx, hf⟩ := DataW.trod_struct Try.underlying57 h
  rw [cK_part] at hl
  obtain ⟨v0, v1, v2, v3, rfl⟩ := listK4 hl
  have hx2 : xs.length = 2 := hx
  obtain ⟨x0, e0⟩ := someK (i := 0) hx2 (by omega)
  obtain ⟨x1, e1⟩ := someK (i := 1) hx2 (by omega)
  have f0 : DataW.trod enc Try.prog w base spare held n 3 (([v0, v1, v2, v3].drop 0).take (Try.prog.cellsOf 3)) = xs[0]? := hf 0 _ rfl
  have f1 : DataW.trod enc Try.prog w base spare held n 37 (([v0, v1, v2, v3].drop 1).take (Try.prog.cellsOf 37)) = xs[1]? := hf 1 _ rfl
  rw [e0, cK_int] at f0
  rw [e1, cK_input] at f1
  obtain ⟨n0, g0, _, h0⟩ := DataW.trod_int Try.underlying3 f0
  have f1' : DataW.trod enc Try.prog w base spare held n 37 [v1, v2, v3] = some x1 := f1
  obtain ⟨rs, v, p, g1, p0, p1⟩ := open_inK f1'
  simp at g0 g1
  obtain ⟨rfl, rfl, rfl⟩ := g1
  subst g0
  exact ⟨n0, rs, v, p, rfl, (wfK64 h0).1, (wfK64 h0).2, p0, p1⟩

theorem cells_rowK {a : Addr} {n : Nat} {k : Nat} {cs : List Value} (h : w.cells? 0 (a.add k) n = some cs) : ∀ j, j < n → w.cell? (a.add (k + j)) = cs[j]? := fun j hj => by
  have := (World.cells?_some h).2.2 j hj
  rw [Deep.add_add] at this
  exact this

/-- Parts that can be read are parts; how many there are is said by what they take. -/
theorem open_partsK {fuel : Nat} {a : Option Addr} {n cap : Nat} {x : DataW H × List MemPlace} (h : DataW.trod enc Try.prog w 0 spare held fuel 33 [.slice a n cap] = some x) (hs : ∀ el sp, x.1 = .slice el sp → (el.length + sp.length) * 32 ≤ reachBytes) :
    n ≤ 8796093022208 ∧ (n = 0 ∨ ∃ b off, a = some ⟨b, off, none⟩ ∧ IsParts w b off n) := by
  rcases Deep.open_slice Try.underlying33 h with ⟨hcs, _⟩ | ⟨a', len, cap', m, q, D, Pl, hcs, _, hl, hm, hmm, hx, hall⟩
  · simp at hcs
    exact ⟨by omega, Or.inl hcs.2.1⟩
  · simp at hcs
    obtain ⟨rfl, rfl, rfl⟩ := hcs
    have hle : n ≤ m := by rw [hmm]; split <;> omega
    have hsz := hs _ _ (by rw [hx])
    simp only [List.length_map, List.length_range] at hsz
    have hrb := reachBytes_lt
    refine ⟨by omega, ?_⟩
    by_cases h0 : n = 0
    · exact Or.inl h0
    right
    obtain ⟨ab, aoff, spot⟩ := a'
    have each : ∀ i, i < n → ∃ t rs v p, (-9223372036854775808 ≤ t ∧ t ≤ 9223372036854775807) ∧ 0 ≤ p ∧ p ≤ 255 ∧ ∀ j, j < 4 → w.cell? ((⟨ab, aoff, spot⟩ : Addr).add (i * 4 + j)) = [Value.int .i64 t, .bool rs, .int .i64 v, .int .u8 p][j]? := by
      intro i hi
      obtain ⟨cs', h1, h2⟩ := hall i (by omega)
      rw [cK_part] at h1
      obtain ⟨t, rs, v, p, rfl, t0, t1, p0, p1⟩ := open_partK h2
      exact ⟨t, rs, v, p, ⟨t0, t1⟩, p0, p1, cells_rowK h1⟩
    have hspot : spot = none := by
      obtain ⟨t, rs, v, p, _, _, _, hc⟩ := each 0 (by omega)
      have h2 := World.cell?_spot ((hc 0 (by omega)).trans rfl)
      simpa [Addr.add] using h2
    subst hspot
    have hlt : ab < w.heap.size := by
      obtain ⟨t, rs, v, p, _, _, _, hc⟩ := each 0 (by omega)
      have h1 := hc 0 (by omega)
      rw [addK] at h1
      exact lt_of_cell (h1.trans rfl)
    refine ⟨ab, aoff, rfl, hlt, fun i hi => ?_⟩
    obtain ⟨t, rs, v, p, ⟨t0, t1⟩, p0, p1, hc⟩ := each i hi
    have c0 := hc 0 (by omega)
    have c1 := hc 1 (by omega)
    have c2 := hc 2 (by omega)
    have c3 := hc 3 (by omega)
    rw [addK] at c0 c1 c2 c3
    exact ⟨t, rs, v, p, t0, t1, p0, p1, c0, by rw [Nat.add_assoc]; exact c1, by rw [Nat.add_assoc]; exact c2, by rw [Nat.add_assoc]; exact c3⟩

theorem open_intK {fuel : Nat} {v : Value} {x : DataW H × List MemPlace} (h : DataW.trod enc Try.prog w base spare held fuel 3 [v] = some x) : ∃ n, v = .int .i64 n ∧ -9223372036854775808 ≤ n ∧ n ≤ 9223372036854775807 := by
  obtain ⟨n, g, _, h0⟩ := DataW.trod_int Try.underlying3 h
  simp at g
  exact ⟨n, g, (wfK64 h0).1, (wfK64 h0).2⟩

theorem open_stringK {fuel : Nat} {v : Value} {x : DataW H × List MemPlace} (h : DataW.trod enc Try.prog w base spare held fuel 9 [v] = some x) : ∃ s, v = .string s ∧ s.size ≤ maxLen := by
  obtain ⟨s, g, _, h0⟩ := DataW.trod_string Try.underlying9 h
  simp at g
  exact ⟨s, g, h0⟩

end

end Go.Proofs.Ytikdbpphbdbdnaa
