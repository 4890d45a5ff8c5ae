/- A script as it comes: its steps can be read. -/
import Derived.Test.YtikdbpphbdbdnaaGreatRows
import Derived.Test.YtikdbpphbdbdnaaGreatNewQ
import Derived.Test.YtikdbpphbdbdnaaGreatPlaysM
import Derived.ProofKit
import Derived.OpenShut
import Derived.ChangeOld
import Derived.Below
import Derived.Deep.Slices
namespace Go.Proofs.YtikdbpphbdbdnaaGreat
open Go.ChangeShapes Go.WideShapes Go.ChangeAt Go.RowKit
set_option linter.unusedVariables false

theorem ownS : ownKnob Tryz.prog.godebug = none := by kernel_rfl
theorem laidOutS : laidOutB Tryz.prog = true := by kernel_rfl

theorem cS_int : Tryz.prog.cellsOf 3 = 1 := by kernel_rfl
theorem cS_bool : Tryz.prog.cellsOf 4 = 1 := by kernel_rfl
theorem cS_u8 : Tryz.prog.cellsOf 5 = 1 := by kernel_rfl
theorem cS_string : Tryz.prog.cellsOf 9 = 1 := by kernel_rfl
theorem cS_arr2 : Tryz.prog.cellsOf 33 = 2 := by kernel_rfl
theorem cS_inputs : Tryz.prog.cellsOf 34 = 1 := by kernel_rfl
theorem cS_input : Tryz.prog.cellsOf 40 = 3 := by kernel_rfl
theorem cS_op : Tryz.prog.cellsOf 36 = 8 := by kernel_rfl

theorem listS8 {α : Type} {l : List α} (h : l.length = 8) : ∃ a b c d e f g i, l = [a, b, c, d, e, f, g, i] := by
  match l, h with
  | [a, b, c, d, e, f, g, i], _ => exact ⟨a, b, c, d, e, f, g, i, rfl⟩

theorem listS3 {α : Type} {l : List α} (h : l.length = 3) : ∃ a b c, l = [a, b, c] := by
  match l, h with
  | [a, b, c], _ => exact ⟨a, b, c, rfl⟩

theorem someS {α : Type} {l : List α} {n i : Nat} (h : l.length = n) (hi : i < n) : ∃ x, l[i]? = some x := ⟨l[i], List.getElem?_eq_getElem (by omega)⟩

theorem addS (b o k : Nat) : (⟨b, o, none⟩ : Addr).add k = ⟨b, o + k, none⟩ := by unfold Addr.add; split <;> simp_all

theorem wf64 {n : Int} (h : (Lit.int .i64 n).wf = true) : -9223372036854775808 ≤ n ∧ n ≤ 9223372036854775807 := by
  simp only [Lit.wf, Bool.and_eq_true, decide_eq_true_eq] at h
  exact h

theorem wf8 {n : Int} (h : (Lit.int .u8 n).wf = true) : 0 ≤ n ∧ n ≤ 255 := by
  simp only [Lit.wf, Bool.and_eq_true, decide_eq_true_eq] at h
  exact h

theorem bulk_pos {H : Type} (d : DataW H) : 1 ≤ Rows.uptoBulk d := by
  cases d with
  | lit l => cases l <;> simp [Rows.uptoBulk]
  | _ => simp [Rows.uptoBulk]

theorem bulk_len {H : Type} : ∀ l : List (DataW H), l.length ≤ Rows.uptoBulkAll l
  | [] => by simp [Rows.uptoBulkAll]
  | d :: r => by
    have h1 := bulk_pos d
    have h2 := bulk_len r
    simp only [Rows.uptoBulkAll, List.length_cons]
    omega

theorem bulk_mem {H : Type} {d : DataW H} : ∀ {l : List (DataW H)}, d ∈ l → Rows.uptoBulk d ≤ Rows.uptoBulkAll l
  | x :: r, h => by
    simp only [Rows.uptoBulkAll]
    rcases List.mem_cons.1 h with e | e
    · subst e; omega
    · have := bulk_mem e; omega

section
variable {H : Type} {enc : TypeId × Value → H} {w : World} {base : Nat} {spare : Nat → Bool} {held : Bool}

theorem open_in {fuel : Nat} {cs : List Value} {x : DataW H × List MemPlace} (h : DataW.trod enc Tryz.prog w base spare held fuel 40 cs = some x) :
    ∃ rs v p, cs = [.bool rs, .int .i64 v, .int .u8 p] ∧ 0 ≤ p ∧ p ≤ 255 := by
  obtain ⟨xs, n, _, _, hl, hx, hf⟩ := DataW.trod_struct Tryz.underlying40 h
  rw [cS_input] at hl
  obtain ⟨v0, v1, v2, rfl⟩ := listS3 hl
  have hx3 : xs.length = 3 := hx
  obtain ⟨x0, e0⟩ := someS (i := 0) hx3 (by omega)
  obtain ⟨x1, e1⟩ := someS (i := 1) hx3 (by omega)
  obtain ⟨x2, e2⟩ := someS (i := 2) hx3 (by omega)
  have f0 : DataW.trod enc Tryz.prog w base spare held n 4 (([v0, v1, v2].drop 0).take (Tryz.prog.cellsOf 4)) = xs[0]? := hf 0 _ rfl
  have f1 : DataW.trod enc Tryz.prog w base spare held n 3 (([v0, v1, v2].drop 1).take (Tryz.prog.cellsOf 3)) = xs[1]? := hf 1 _ rfl
  have f2 : DataW.trod enc Tryz.prog w base spare held n 5 (([v0, v1, v2].drop 2).take (Tryz.prog.cellsOf 5)) = xs[2]? := hf 2 _ rfl
  rw [e0, cS_bool] at f0
  rw [e1, cS_int] at f1
  rw [e2, cS_u8] at f2
  obtain ⟨n0, g0, _⟩ := DataW.trod_bool Tryz.underlying4 f0
  obtain ⟨n1, g1, _⟩ := DataW.trod_int Tryz.underlying3 f1
  obtain ⟨n2, g2, _, h2⟩ := DataW.trod_int Tryz.underlying5 f2
  simp at g0 g1 g2
  subst g0 g1 g2
  exact ⟨n0, n1, n2, rfl, (wf8 h2).1, (wf8 h2).2⟩

theorem cells_row {a : Addr} {n : Nat} {k : Nat} {cs : List Value} (h : w.cells? 0 (a.add k) n = some cs) : ∀ j, j < n → w.cell? (a.add (k + j)) = cs[j]? := fun j hj => by
  have := (World.cells?_some h).2.2 j hj
  rw [Deep.add_add] at this
  exact this

theorem open_ins {fuel : Nat} {v : Value} {x : DataW H × List MemPlace} (h : DataW.trod enc Tryz.prog w 0 spare held fuel 34 [v] = some x) :
    ∃ la ll lc, v = .slice la ll lc ∧ IsIns w (fun k => k < w.heap.size) la ll ∧ ll ≤ Rows.uptoBulk x.1 ∧ (la = none → ll = 0) := by
  rcases Deep.open_slice Tryz.underlying34 h with ⟨hcs, _⟩ | ⟨a, len, cap, m, n, D, Pl, hcs, _, hl, hm, hmm, hx, hall⟩
  · simp at hcs
    exact ⟨none, 0, 0, hcs, Or.inl rfl, Nat.zero_le _, fun _ => rfl⟩
  · simp at hcs
    have hle : len ≤ m := by rw [hmm]; split <;> omega
    refine ⟨some a, len, cap, hcs, ?_, ?_, fun x => nomatch x⟩
    · by_cases h0 : len = 0
      · exact Or.inl h0
      right
      obtain ⟨ab, aoff, spot⟩ := a
      have each : ∀ i, i < len → ∃ rs v p, 0 ≤ p ∧ p ≤ 255 ∧ ∀ j, j < 3 → w.cell? ((⟨ab, aoff, spot⟩ : Addr).add (i * 3 + j)) = [Value.bool rs, .int .i64 v, .int .u8 p][j]? := by
        intro i hi
        obtain ⟨cs', h1, h2⟩ := hall i (by omega)
        rw [cS_input] at h1
        obtain ⟨rs, v, p, rfl, p0, p1⟩ := open_in h2
        exact ⟨rs, v, p, p0, p1, cells_row h1⟩
      have hspot : spot = none := by
        obtain ⟨rs, v, p, _, _, hc⟩ := each 0 (by omega)
        have h2 := World.cell?_spot ((hc 0 (by omega)).trans rfl)
        simpa [Addr.add] using h2
      subst hspot
      have hlt : ab < w.heap.size := by
        obtain ⟨rs, v, p, _, _, hc⟩ := each 0 (by omega)
        have h1 := hc 0 (by omega)
        rw [addS] at h1
        exact lt_of_cell (h1.trans rfl)
      refine ⟨ab, aoff, rfl, hlt, hlt, fun i hi => ?_⟩
      obtain ⟨rs, v, p, p0, p1, hc⟩ := each i hi
      have c0 := hc 0 (by omega)
      have c1 := hc 1 (by omega)
      have c2 := hc 2 (by omega)
      rw [addS] at c0 c1 c2
      exact ⟨rs, v, p, p0, p1, c0, by rw [Nat.add_assoc]; exact c1, by rw [Nat.add_assoc]; exact c2⟩
    · rw [hx]
      have := bulk_len ((List.range len).map D)
      simp only [List.length_map, List.length_range] at this
      simp only [Rows.uptoBulk]
      omega

/-- A step that can be read is one. -/
theorem open_opS {fuel : Nat} {cs : List Value} {x : DataW H × List MemPlace} (h : DataW.trod enc Tryz.prog w 0 spare held fuel 36 cs = some x) (hxb : Rows.uptoBulk x.1 ≤ 1048576) :
    ∃ o : OpV, cs = o.cells ∧ OpOk w (fun k => k < w.heap.size) o := by
  obtain ⟨xs, n, _, hxe, hl, hx, hf⟩ := DataW.trod_struct Tryz.underlying36 h
  rw [cS_op] at hl
  obtain ⟨v0, v1, v2, v3, v4, v5, v6, v7, rfl⟩ := listS8 hl
  have hx7 : xs.length = 7 := hx
  obtain ⟨x0, e0⟩ := someS (i := 0) hx7 (by omega)
  obtain ⟨x1, e1⟩ := someS (i := 1) hx7 (by omega)
  obtain ⟨x2, e2⟩ := someS (i := 2) hx7 (by omega)
  obtain ⟨x3, e3⟩ := someS (i := 3) hx7 (by omega)
  obtain ⟨x4, e4⟩ := someS (i := 4) hx7 (by omega)
  obtain ⟨x5, e5⟩ := someS (i := 5) hx7 (by omega)
  obtain ⟨x6, e6⟩ := someS (i := 6) hx7 (by omega)
  have f0 : DataW.trod enc Tryz.prog w 0 spare held n 3 (([v0, v1, v2, v3, v4, v5, v6, v7].drop 0).take (Tryz.prog.cellsOf 3)) = xs[0]? := hf 0 _ rfl
  have f1 : DataW.trod enc Tryz.prog w 0 spare held n 3 (([v0, v1, v2, v3, v4, v5, v6, v7].drop 1).take (Tryz.prog.cellsOf 3)) = xs[1]? := hf 1 _ rfl
  have f2 : DataW.trod enc Tryz.prog w 0 spare held n 3 (([v0, v1, v2, v3, v4, v5, v6, v7].drop 2).take (Tryz.prog.cellsOf 3)) = xs[2]? := hf 2 _ rfl
  have f3 : DataW.trod enc Tryz.prog w 0 spare held n 9 (([v0, v1, v2, v3, v4, v5, v6, v7].drop 3).take (Tryz.prog.cellsOf 9)) = xs[3]? := hf 3 _ rfl
  have f4 : DataW.trod enc Tryz.prog w 0 spare held n 9 (([v0, v1, v2, v3, v4, v5, v6, v7].drop 4).take (Tryz.prog.cellsOf 9)) = xs[4]? := hf 4 _ rfl
  have f5 : DataW.trod enc Tryz.prog w 0 spare held n 33 (([v0, v1, v2, v3, v4, v5, v6, v7].drop 5).take (Tryz.prog.cellsOf 33)) = xs[5]? := hf 5 _ rfl
  have f6 : DataW.trod enc Tryz.prog w 0 spare held n 34 (([v0, v1, v2, v3, v4, v5, v6, v7].drop 7).take (Tryz.prog.cellsOf 34)) = xs[6]? := hf 6 _ rfl
  rw [e0, cS_int] at f0
  rw [e1, cS_int] at f1
  rw [e2, cS_int] at f2
  rw [e3, cS_string] at f3
  rw [e4, cS_string] at f4
  rw [e5, cS_arr2] at f5
  rw [e6, cS_inputs] at f6
  obtain ⟨n0, g0, _⟩ := DataW.trod_int Tryz.underlying3 f0
  obtain ⟨n1, g1, _, z1⟩ := DataW.trod_int Tryz.underlying3 f1
  obtain ⟨n2, g2, _, z2⟩ := DataW.trod_int Tryz.underlying3 f2
  obtain ⟨s3, g3, _, z3⟩ := DataW.trod_string Tryz.underlying9 f3
  obtain ⟨s4, g4, _, z4⟩ := DataW.trod_string Tryz.underlying9 f4
  obtain ⟨ys, m, _, _, _, hy, hq⟩ := DataW.trod_array Tryz.underlying33 f5
  obtain ⟨y0, d0⟩ := someS (i := 0) hy (by omega)
  obtain ⟨y1, d1⟩ := someS (i := 1) hy (by omega)
  have q0 := hq 0 (by omega)
  have q1 := hq 1 (by omega)
  rw [d0] at q0
  rw [d1] at q1
  simp only [cS_int] at q0 q1
  obtain ⟨n5, g5, _⟩ := DataW.trod_int Tryz.underlying3 q0
  obtain ⟨n6, g6, _⟩ := DataW.trod_int Tryz.underlying3 q1
  have f6' : DataW.trod enc Tryz.prog w 0 spare held n 34 [v7] = some x6 := f6
  obtain ⟨la, ll, lc, rfl, hin, hll, hnil⟩ := open_ins f6'
  simp at g0 g1 g2 g3 g4 g5 g6
  subst g0 g1 g2 g3 g4 g5 g6
  have hb : ll ≤ 1048576 := by
    have hm : x6.1 ∈ xs.map (·.1) := List.mem_map.2 ⟨x6, List.mem_of_getElem? e6, rfl⟩
    have := bulk_mem hm
    rw [hxe] at hxb
    simp only [Rows.uptoBulk] at hxb
    omega
  exact ⟨⟨n0, n1, n2, s3, s4, n5, n6, la, ll, lc⟩, rfl, ⟨z3, z4, (wf64 z1).1, (wf64 z1).2, (wf64 z2).1, (wf64 z2).2, hin, hb, hnil⟩⟩

/-- A script that can be read. -/
theorem open_scriptS {fuel : Nat} {a : Option Addr} {n cap : Nat} {x : DataW H × List MemPlace} (h : DataW.trod enc Tryz.prog w 0 spare held fuel 22 [.slice a n cap] = some x) (hb : Rows.uptoBulk x.1 ≤ 1048576) :
    n ≤ 1048576 ∧ ∃ os, n = 0 ∨ ∃ b off, a = some ⟨b, off, none⟩ ∧ OpsIn w (fun k => k < w.heap.size) b off n os := by
  rcases Deep.open_slice Tryz.underlying22 h with ⟨hcs, _⟩ | ⟨a', len, cap', m, q, D, Pl, hcs, _, hl, hm, hmm, hx, hall⟩
  · simp at hcs
    exact ⟨by omega, fun _ => ⟨0, 0, 0, ⟨#[]⟩, ⟨#[]⟩, 0, 0, none, 0, 0⟩, Or.inl hcs.2.1⟩
  · simp at hcs
    obtain ⟨rfl, rfl, rfl⟩ := hcs
    have hle : n ≤ m := by rw [hmm]; split <;> omega
    rw [hx] at hb
    simp only [Rows.uptoBulk] at hb
    have hlen := bulk_len ((List.range n).map D)
    simp only [List.length_map, List.length_range] at hlen
    have hD : ∀ i, i < n → Rows.uptoBulk (D i) ≤ 1048576 := fun i hi => by
      have := bulk_mem (List.mem_map.2 ⟨i, List.mem_range.2 hi, rfl⟩ : D i ∈ (List.range n).map D)
      omega
    refine ⟨by omega, ?_⟩
    have each : ∀ i, ∃ o : OpV, i < n → OpOk w (fun k => k < w.heap.size) o ∧ w.cells? 0 (a'.add (i * 8)) 8 = some o.cells := by
      intro i
      by_cases hi : i < n
      · obtain ⟨cs', h1, h2⟩ := hall i (by omega)
        obtain ⟨o, rfl, ho⟩ := open_opS h2 (hD i hi)
        rw [cS_op] at h1
        exact ⟨o, fun _ => ⟨ho, h1⟩⟩
      · exact ⟨⟨0, 0, 0, ⟨#[]⟩, ⟨#[]⟩, 0, 0, none, 0, 0⟩, fun h => absurd h hi⟩
    refine ⟨fun i => Classical.choose (each i), ?_⟩
    have spec := fun i => Classical.choose_spec (each i)
    by_cases h0 : n = 0
    · exact Or.inl h0
    right
    obtain ⟨ab, aoff, spot⟩ := a'
    have cell : ∀ i, i < n → ∀ j, j < 8 → w.cell? ((⟨ab, aoff, spot⟩ : Addr).add (i * 8 + j)) = (Classical.choose (each i)).cells[j]? := fun i hi => cells_row (spec i hi).2
    have hspot : spot = none := by
      have h1 := cell 0 (by omega) 0 (by omega)
      have h2 := World.cell?_spot (h1.trans rfl)
      simpa [Addr.add] using h2
    subst hspot
    have cell' : ∀ i, i < n → ∀ j, j < 8 → w.cell? ⟨ab, aoff + i * 8 + j, none⟩ = (Classical.choose (each i)).cells[j]? := by
      intro i hi j hj
      have ha : (⟨ab, aoff, none⟩ : Addr).add (i * 8 + j) = ⟨ab, aoff + i * 8 + j, none⟩ := by rw [addS, Nat.add_assoc]
      rw [← ha]
      exact cell i hi j hj
    have hlt : ab < w.heap.size := lt_of_cell ((cell' 0 (by omega) 0 (by omega)).trans rfl)
    refine ⟨ab, aoff, rfl, hlt, hlt, fun i hi => ⟨(spec i hi).1, fun j v hv => ?_⟩⟩
    have hj : j < 8 := by
      rcases Nat.lt_or_ge j 8 with h | h
      · exact h
      · rw [List.getElem?_eq_none (by exact h)] at hv; cases hv
    rw [cell' i hi j hj, hv]

end

end Go.Proofs.YtikdbpphbdbdnaaGreat
