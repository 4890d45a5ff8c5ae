/- Images: whatever the script of calls of Build, Valid and Choose, every answer of the program is the document's, at every input. No condition. -/
import Derived.Test.YtikdbpphbdbdnaaGreatRows
import Derived.Test.YtikdbpphbdbdnaaGreatPlays
import Derived.ProofKit
import Derived.OpenShut
import Derived.ChangeOld
import Derived.Below
import Derived.Deep.Slices
namespace Go.Proofs.YtikdbpphbdbdnaaGreat
open Go.ChangeShapes Go.WideShapes Go.ChangeAt Go.RowKit
set_option linter.unusedVariables false

theorem own : ownKnob Tryz.prog.godebug = none := by kernel_rfl
theorem laidOut : laidOutB Tryz.prog = true := by kernel_rfl

theorem cellsOf_int : Tryz.prog.cellsOf 3 = 1 := by kernel_rfl
theorem cellsOf_string : Tryz.prog.cellsOf 9 = 1 := by kernel_rfl
theorem cellsOf_arr2 : Tryz.prog.cellsOf 33 = 2 := by kernel_rfl
theorem cellsOf_inputs : Tryz.prog.cellsOf 34 = 1 := by kernel_rfl
theorem cellsOf_op : Tryz.prog.cellsOf 36 = 8 := by kernel_rfl

theorem list8 {α : Type} {l : List α} (h : l.length = 8) : ∃ a b c d e f g i, l = [a, b, c, d, e, f, g, i] := by
  match l, h with
  | [a, b, c, d, e, f, g, i], _ => exact ⟨a, b, c, d, e, f, g, i, rfl⟩

theorem add_plain (b o k : Nat) : (⟨b, o, none⟩ : Addr).add k = ⟨b, o + k, none⟩ := by unfold Addr.add; split <;> simp_all

theorem some_of_lt {α : Type} {l : List α} {n i : Nat} (h : l.length = n) (hi : i < n) : ∃ x, l[i]? = some x := ⟨l[i], List.getElem?_eq_getElem (by omega)⟩

section
variable {H : Type} {enc : TypeId × Value → H} {w : World} {base : Nat} {spare : Nat → Bool} {held : Bool}

/-- A step that can be read is one. -/
theorem open_op {fuel : Nat} {cs : List Value} {x : DataW H × List MemPlace} (h : DataW.trod enc Tryz.prog w base spare held fuel 36 cs = some x) :
    ∃ o : OpV, cs = o.cells ∧ o.s.size ≤ maxLen ∧ o.t.size ≤ maxLen := by
  obtain ⟨xs, n, _, _, hl, hx, hf⟩ := DataW.trod_struct Tryz.underlying36 h
  rw [cellsOf_op] at hl
  obtain ⟨v0, v1, v2, v3, v4, v5, v6, v7, rfl⟩ := list8 hl
  have hx7 : xs.length = 7 := hx
  obtain ⟨x0, e0⟩ := some_of_lt (i := 0) hx7 (by omega)
  obtain ⟨x1, e1⟩ := some_of_lt (i := 1) hx7 (by omega)
  obtain ⟨x2, e2⟩ := some_of_lt (i := 2) hx7 (by omega)
  obtain ⟨x3, e3⟩ := some_of_lt (i := 3) hx7 (by omega)
  obtain ⟨x4, e4⟩ := some_of_lt (i := 4) hx7 (by omega)
  obtain ⟨x5, e5⟩ := some_of_lt (i := 5) hx7 (by omega)
  obtain ⟨x6, e6⟩ := some_of_lt (i := 6) hx7 (by omega)
  have f0 : DataW.trod enc Tryz.prog w base spare held n 3 (([v0, v1, v2, v3, v4, v5, v6, v7].drop 0).take (Tryz.prog.cellsOf 3)) = xs[0]? := hf 0 _ rfl
  have f1 : DataW.trod enc Tryz.prog w base spare held n 3 (([v0, v1, v2, v3, v4, v5, v6, v7].drop 1).take (Tryz.prog.cellsOf 3)) = xs[1]? := hf 1 _ rfl
  have f2 : DataW.trod enc Tryz.prog w base spare held n 3 (([v0, v1, v2, v3, v4, v5, v6, v7].drop 2).take (Tryz.prog.cellsOf 3)) = xs[2]? := hf 2 _ rfl
  have f3 : DataW.trod enc Tryz.prog w base spare held n 9 (([v0, v1, v2, v3, v4, v5, v6, v7].drop 3).take (Tryz.prog.cellsOf 9)) = xs[3]? := hf 3 _ rfl
  have f4 : DataW.trod enc Tryz.prog w base spare held n 9 (([v0, v1, v2, v3, v4, v5, v6, v7].drop 4).take (Tryz.prog.cellsOf 9)) = xs[4]? := hf 4 _ rfl
  have f5 : DataW.trod enc Tryz.prog w base spare held n 33 (([v0, v1, v2, v3, v4, v5, v6, v7].drop 5).take (Tryz.prog.cellsOf 33)) = xs[5]? := hf 5 _ rfl
  have f6 : DataW.trod enc Tryz.prog w base spare held n 34 (([v0, v1, v2, v3, v4, v5, v6, v7].drop 7).take (Tryz.prog.cellsOf 34)) = xs[6]? := hf 6 _ rfl
  rw [e0] at f0
  rw [e1] at f1
  rw [e2] at f2
  rw [e3] at f3
  rw [e4] at f4
  rw [e5] at f5
  rw [e6] at f6
  rw [cellsOf_int] at f0 f1 f2
  rw [cellsOf_string] at f3 f4
  rw [cellsOf_arr2] at f5
  rw [cellsOf_inputs] at f6
  obtain ⟨n0, g0, _⟩ := DataW.trod_int Tryz.underlying3 f0
  obtain ⟨n1, g1, _⟩ := DataW.trod_int Tryz.underlying3 f1
  obtain ⟨n2, g2, _⟩ := DataW.trod_int Tryz.underlying3 f2
  obtain ⟨s3, g3, _, z3⟩ := DataW.trod_string Tryz.underlying9 f3
  obtain ⟨s4, g4, _, z4⟩ := DataW.trod_string Tryz.underlying9 f4
  obtain ⟨ys, m, _, _, _, hy, hq⟩ := DataW.trod_array Tryz.underlying33 f5
  obtain ⟨y0, d0⟩ := some_of_lt (i := 0) hy (by omega)
  obtain ⟨y1, d1⟩ := some_of_lt (i := 1) hy (by omega)
  have q0 := hq 0 (by omega)
  have q1 := hq 1 (by omega)
  rw [d0] at q0
  rw [d1] at q1
  simp only [cellsOf_int] at q0 q1
  obtain ⟨n5, g5, _⟩ := DataW.trod_int Tryz.underlying3 q0
  obtain ⟨n6, g6, _⟩ := DataW.trod_int Tryz.underlying3 q1
  have g7 : ∃ a l c, v7 = .slice a l c := by
    rcases Deep.open_slice Tryz.underlying34 f6 with ⟨hcs, _⟩ | ⟨a', len', cap', _, _, _, _, hcs, _⟩
    · simp at hcs; exact ⟨_, _, _, hcs⟩
    · simp at hcs; exact ⟨_, _, _, hcs⟩
  obtain ⟨la, ll, lc, rfl⟩ := g7
  simp at g0 g1 g2 g3 g4 g5 g6
  subst g0 g1 g2 g3 g4 g5 g6
  exact ⟨⟨n0, n1, n2, s3, s4, n5, n6, la, ll, lc⟩, rfl, z3, z4⟩

/-- A script that can be read. -/
theorem open_script {fuel : Nat} {a : Option Addr} {n cap : Nat} {x : DataW H × List MemPlace} (h : DataW.trod enc Tryz.prog w 0 spare held fuel 22 [.slice a n cap] = some x) :
    ∃ os, n = 0 ∨ ∃ b off, a = some ⟨b, off, none⟩ ∧ b < w.heap.size ∧ IsOps w b off n os := by
  rcases Deep.open_slice Tryz.underlying22 h with ⟨hcs, _⟩ | ⟨a', len, cap', m, q, D, Pl, hcs, _, hl, hm, hmm, _, hall⟩
  · simp at hcs
    exact ⟨fun _ => ⟨0, 0, 0, ⟨#[]⟩, ⟨#[]⟩, 0, 0, none, 0, 0⟩, Or.inl hcs.2.1⟩
  · simp at hcs
    obtain ⟨rfl, rfl, rfl⟩ := hcs
    have hle : n ≤ m := by rw [hmm]; split <;> omega
    have each : ∀ i, ∃ o : OpV, i < n → o.s.size ≤ maxLen ∧ o.t.size ≤ maxLen ∧ w.cells? 0 (a'.add (i * 8)) 8 = some o.cells := by
      intro i
      by_cases hi : i < n
      · obtain ⟨cs', h1, h2⟩ := hall i (by omega)
        obtain ⟨o, rfl, zs, zt⟩ := open_op h2
        rw [cellsOf_op] at h1
        exact ⟨o, fun _ => ⟨zs, zt, h1⟩⟩
      · exact ⟨⟨0, 0, 0, ⟨#[]⟩, ⟨#[]⟩, 0, 0, none, 0, 0⟩, fun h => absurd h hi⟩
    refine ⟨fun i => Classical.choose (each i), ?_⟩
    have spec := fun i => Classical.choose_spec (each i)
    by_cases h0 : n = 0
    · exact Or.inl h0
    right
    obtain ⟨ab, aoff, spot⟩ := a'
    have cell : ∀ i, i < n → ∀ j, j < 8 → w.cell? ((⟨ab, aoff, spot⟩ : Addr).add (i * 8 + j)) = (Classical.choose (each i)).cells[j]? := by
      intro i hi j hj
      have := (World.cells?_some (spec i hi).2.2).2.2 j hj
      rw [Deep.add_add] at this
      exact this
    have hspot : spot = none := by
      have h1 := cell 0 (by omega) 0 (by omega)
      have h2 := World.cell?_spot (h1.trans rfl)
      simpa [Addr.add] using h2
    subst hspot
    have cell' : ∀ i, i < n → ∀ j, j < 8 → w.cell? ⟨ab, aoff + i * 8 + j, none⟩ = (Classical.choose (each i)).cells[j]? := by
      intro i hi j hj
      have ha : (⟨ab, aoff, none⟩ : Addr).add (i * 8 + j) = ⟨ab, aoff + i * 8 + j, none⟩ := by rw [add_plain, Nat.add_assoc]
      rw [← ha]
      exact cell i hi j hj
    refine ⟨ab, aoff, rfl, ?_, fun i hi => ⟨(spec i hi).1, (spec i hi).2.1, fun j v hv => ?_⟩⟩
    · have h1 := cell' 0 (by omega) 0 (by omega)
      rcases Nat.lt_or_ge ab w.heap.size with h | h
      · exact h
      · have h3 : w.heap[ab]? = none := Array.getElem?_eq_none h
        simp [World.cell?, h3, OpV.cells] at h1
    · have hj : j < 8 := by
        rcases Nat.lt_or_ge j 8 with h | h
        · exact h
        · rw [List.getElem?_eq_none (by exact h)] at hv; cases hv
      rw [cell' i hi j hj, hv]

end

set_option maxHeartbeats 400000 in
theorem images_walk (a : Option Addr) (n cap : Nat) (w : World) (os : Nat → OpV) (ha : n = 0 ∨ ∃ b off, a = some ⟨b, off, none⟩ ∧ b < w.heap.size ∧ IsOps w b off n os) :
    Calls Tryz.prog 3 #[.slice a n cap] w fun e w' => e = .returned (.bool true) ∧ Below w.heap.size w w' := by
  go_enter Tryz.func3, Tryz.ntmps3
  go_wp2_with fail
  refine (plays_images a n cap _ os ha).mono ?_
  rintro e w1 ⟨rfl, h1⟩
  go_wp2
  go_ret
  exact ⟨rfl, h1⟩

set_option maxRecDepth 100000 in
theorem lifted (os : Os) (started : os.Started) (H : Type) (enc : TypeId × Value → H) :
    ReturnsInHanded {} Tryz.checked os 3 .any (Rows.imagesSpec.pre6 enc Tryz.prog Tryz.f3 Rows.imagesRow.domain false) (Rows.imagesSpec.post enc Tryz.prog Tryz.f3 false true false false) := by
  refine returnsInHanded_of_change (C := Tryz.checked) own started (by kernel_rfl) Tryz.func3
    (ChangeSpec.witness6 (enc := enc) (C := Tryz.checked) false ⟨#[], #[.slice none 0 0], []⟩ 8 (by kernel_rfl) (by kernel_rfl) (by kernel_rfl) (by kernel_rfl)) ?_
  intro W base args ds gs before hval0 hW hcnd _
  have hval : ∀ (j : Nat) t v, Tryz.f3.params[j]? = some t → args[j]? = some v → Value.okWide Tryz.prog W .any base t v := hval0
  have hW' := hW
  obtain ⟨p, q, hA0, hV, rfl, hfz, hnd⟩ := hW
  have hA : DataW.TrodAll enc Tryz.prog W 0 (fun _ => true) true Tryz.f3.params.toList args.toList ds p := hA0
  rw [Tryz.params3] at hA hval
  obtain ⟨v0, vs0, d0, ds0, p0, q0, hargs, rfl, rfl, h0, r0⟩ := trodAll_cons hA
  obtain ⟨rfl, rfl, rfl⟩ := trodAll_nil r0
  obtain rfl : args = #[v0] := by cases args; simp_all
  obtain ⟨rfl, rfl⟩ := trodVars_none hV
  obtain ⟨a0, len0, cap0, rfl⟩ := okWide_slice Tryz.underlying22 (hval 0 22 v0 rfl rfl)
  have k0 := h0
  have lt0 : ∀ x ∈ p0, x.block < W.heap.size := by obtain ⟨m, hm⟩ := k0; exact DataW.trod_lt m _ _ _ hm
  obtain ⟨ops, w0⟩ : ∃ ops, len0 = 0 ∨ ∃ b off, a0 = some ⟨b, off, none⟩ ∧ b < W.heap.size ∧ IsOps W b off len0 ops := by
    obtain ⟨fuel, hf⟩ := h0
    exact open_script (by simpa [Value.cells] using hf)
  clear hA0 hval0
  refine (images_walk a0 len0 cap0 W ops w0).mono fun e W' ⟨he, bel⟩ => ?_
  subst he
  exact ⟨_, rfl, _, _, _, [], _, [], hW', trodAll_mk1 (shut_bool Tryz.underlying4 _), (trodAll_cons_mk (Below.trod laidOut (by kernel_rfl) (of_decide_eq_true (by kernel_rfl)) k0 bel lt0) trodAll_mk0), rfl, bel.frame _, fun h => by cases h⟩

/-- THE STATEMENT. -/
theorem images_holds : Rows.ImagesSaid :=
  OpenClaim.holds_of_wide 3 Tryz.f3 rfl rfl rfl rfl rfl rfl rfl ⟨rfl, rfl, rfl, rfl, rfl⟩ rfl rfl rfl rfl rfl (by kernel_rfl) Tryz.func3 (by kernel_rfl)
    (of_decide_eq_true (by kernel_rfl)) (by unfold Func.isWrapper; first | (rw [if_pos (by decide +kernel)]; kernel_rfl) | (rw [if_neg (by decide +kernel)]; exact ⟨rfl, rfl⟩))
    (fun os started H enc _ => lifted os started H enc)

#print axioms images_holds
end Go.Proofs.YtikdbpphbdbdnaaGreat
