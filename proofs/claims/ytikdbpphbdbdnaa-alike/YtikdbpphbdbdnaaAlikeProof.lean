/- Alike: Run is Step again and again, wherever it is cut; two boards do not know of one another. -/
import Derived.Test.YtikdbpphbdbdnaaOpenK
import Derived.Test.YtikdbpphbdbdnaaKeep10
import Derived.Test.YtikdbpphbdbdnaaNewQ
namespace Go.Proofs.Ytikdbpphbdbdnaa
open Go.ChangeShapes Go.WideShapes Go.ChangeAt Go.RowKit
set_option linter.unusedVariables false

section
variable {H : Type} {enc : TypeId × Value → H} {w : World} {base : Nat} {spare : Nat → Bool} {held : Bool}

/-- Inputs that can be read are inputs; how many there are is said by what they take. -/
theorem open_insK {fuel : Nat} {a : Option Addr} {n cap : Nat} {x : DataW H × List MemPlace} (h : DataW.trod enc Try.prog w 0 spare held fuel 50 [.slice a n cap] = some x) (hs : ∀ el sp, x.1 = .slice el sp → (el.length + sp.length) * 24 ≤ reachBytes) :
    n ≤ 5864062014805 ∧ n ≤ cap ∧ ∃ ins : Nat → In, n = 0 ∨ ∃ b off, a = some ⟨b, off, none⟩ ∧ b < w.heap.size ∧ InsAt w b off n ins := by
  rcases Deep.open_slice Try.underlying50 h with ⟨hcs, _⟩ | ⟨a', len, cap', m, q, D, Pl, hcs, _, hl, hm, hmm, hx, hall⟩
  · simp at hcs
    exact ⟨by omega, by omega, fun _ => ⟨false, 0, 0⟩, Or.inl hcs.2.1⟩
  · simp at hcs
    obtain ⟨rfl, rfl, rfl⟩ := hcs
    have hle : n ≤ m := by rw [hmm]; split <;> omega
    have hsz := hs _ _ (by rw [hx])
    simp only [List.length_map, List.length_range] at hsz
    have hrb : reachBytes = 140737488351232 := rfl
    refine ⟨by omega, hl, ?_⟩
    by_cases h0 : n = 0
    · exact ⟨fun _ => ⟨false, 0, 0⟩, Or.inl h0⟩
    obtain ⟨ab, aoff, spot⟩ := a'
    have each : ∀ i, i < n → ∃ rs v p, 0 ≤ p ∧ p ≤ 255 ∧ ∀ j, j < 3 → w.cell? ((⟨ab, aoff, spot⟩ : Addr).add (i * 3 + j)) = [Value.bool rs, .int .i64 v, .int .u8 p][j]? := by
      intro i hi
      obtain ⟨cs', h1, h2⟩ := hall i (by omega)
      rw [cK_input] at h1
      obtain ⟨rs, v, p, rfl, p0, p1⟩ := open_inK h2
      exact ⟨rs, v, p, p0, p1, cells_rowK h1⟩
    have hspot : spot = none := by
      obtain ⟨rs, v, p, _, _, hc⟩ := each 0 (by omega)
      have h2 := World.cell?_spot ((hc 0 (by omega)).trans rfl)
      simpa [Addr.add] using h2
    subst hspot
    have hlt : ab < w.heap.size := by
      obtain ⟨rs, v, p, _, _, hc⟩ := each 0 (by omega)
      have h1 := hc 0 (by omega)
      rw [addK] at h1
      exact lt_of_cell (h1.trans rfl)
    have each2 : ∀ i, ∃ x : In, i < n → 0 ≤ x.port ∧ x.port ≤ 255 ∧ w.cell? ⟨ab, aoff + i * 3, none⟩ = some (.bool x.reset) ∧ w.cell? ⟨ab, aoff + i * 3 + 1, none⟩ = some (.int .i64 x.volts) ∧ w.cell? ⟨ab, aoff + i * 3 + 2, none⟩ = some (.int .u8 x.port) := fun i => by
      by_cases hi : i < n
      · obtain ⟨rs, v, p, p0, p1, hc⟩ := each i hi
        have c0 := hc 0 (by omega)
        have c1 := hc 1 (by omega)
        have c2 := hc 2 (by omega)
        rw [addK] at c0 c1 c2
        exact ⟨⟨rs, v, p⟩, fun _ => ⟨p0, p1, c0, by rw [Nat.add_assoc]; exact c1, by rw [Nat.add_assoc]; exact c2⟩⟩
      · exact ⟨⟨false, 0, 0⟩, fun x => absurd x hi⟩
    exact ⟨fun i => (each2 i).choose, Or.inr ⟨ab, aoff, rfl, hlt, fun i hi => (each2 i).choose_spec hi⟩⟩

end

set_option maxRecDepth 100000 in
theorem liftedL (os : Os) (started : os.Started) (H : Type) (enc : TypeId × Value → H) :
    ReturnsInHanded {} Try.checked os 7 .any (Rows.alikeSpec.pre6 enc Try.prog Try.f7 Rows.alikeRow.domain false) (Rows.alikeSpec.post enc Try.prog Try.f7 false true false false) := by
  refine returnsInHanded_of_change_sized (C := Try.checked) ownK started (by kernel_rfl) Try.func7
    (ChangeSpec.witness6 (enc := enc) (C := Try.checked) false ⟨#[], #[.string ⟨#[]⟩, .string ⟨#[]⟩, .slice none 0 0, .int .i64 0], []⟩ 8 (by kernel_rfl) (by kernel_rfl) (by kernel_rfl) (by kernel_rfl)) ?_
  intro W base args ds gs before hval0 hW hcnd hz _
  have hval : ∀ (j : Nat) t v, Try.f7.params[j]? = some t → args[j]? = some v → Value.okWide Try.prog W .any base t v := hval0
  have hW' := hW
  obtain ⟨p, q, hA0, hV, rfl, hfz, hnd⟩ := hW
  have hA : DataW.TrodAll enc Try.prog W 0 (fun _ => true) true Try.f7.params.toList args.toList ds p := hA0
  have hz' : ∀ el sp, ds[2]? = some (.slice el sp) → (el.length + sp.length) * 24 ≤ reachBytes := fun el sp hd => by
    have h4 : (ds ++ gs)[2]? = some (.slice el sp) := by
      rw [List.getElem?_append_left (by rcases Nat.lt_or_ge 2 ds.length with h | h; exact h; rw [List.getElem?_eq_none h] at hd; cases hd)]
      exact hd
    have h5 := sized_slice hz (j := 2) (t := 50) (e := 37) rfl h4 Try.underlying50
    rw [show Try.checked.prog.bytesOf 37 = 24 from bK_input] at h5
    exact h5
  rw [Try.params7] at hA hval
  obtain ⟨v0, vs0, d0, ds0, p0, q0, hargs, rfl, rfl, h0, r0⟩ := trodAll_cons hA
  obtain ⟨v1, vs1, d1, ds1, p1, q1, hargs1, rfl, rfl, h1, r1⟩ := trodAll_cons r0
  obtain ⟨v2, vs2, d2, ds2, p2, q2, hargs2, rfl, rfl, h2, r2⟩ := trodAll_cons r1
  obtain ⟨v3, vs3, d3, ds3, p3, q3, hargs3, rfl, rfl, h3, r3⟩ := trodAll_cons r2
  obtain ⟨rfl, rfl, rfl⟩ := trodAll_nil r3
  subst hargs3 hargs2 hargs1
  obtain rfl : args = #[v0, v1, v2, v3] := by cases args; simp_all
  obtain ⟨rfl, rfl⟩ := trodVars_none hV
  have k0 := h0
  have k1 := h1
  have k2 := h2
  have k3 := h3
  have lt0 : ∀ x ∈ p0, x.block < W.heap.size := by obtain ⟨m, hm⟩ := k0; exact DataW.trod_lt m _ _ _ hm
  have lt1 : ∀ x ∈ p1, x.block < W.heap.size := by obtain ⟨m, hm⟩ := k1; exact DataW.trod_lt m _ _ _ hm
  have lt2 : ∀ x ∈ p2, x.block < W.heap.size := by obtain ⟨m, hm⟩ := k2; exact DataW.trod_lt m _ _ _ hm
  have lt3 : ∀ x ∈ p3, x.block < W.heap.size := by obtain ⟨m, hm⟩ := k3; exact DataW.trod_lt m _ _ _ hm
  obtain ⟨s0, rfl⟩ := okWide_string Try.underlying9 (hval 0 9 v0 rfl rfl)
  obtain ⟨s1, rfl⟩ := okWide_string Try.underlying9 (hval 1 9 v1 rfl rfl)
  obtain ⟨a2, len2, cap2, rfl⟩ := okWide_slice Try.underlying50 (hval 2 50 v2 rfl rfl)
  obtain ⟨n3, rfl⟩ := okWide_int Try.underlying3 (hval 3 3 v3 rfl rfl)
  have z0 : s0.size ≤ maxLen := by
    obtain ⟨fuel, hf⟩ := h0
    obtain ⟨s, e, hs⟩ := open_stringK (by simpa [Value.cells] using hf)
    cases e; exact hs
  have z1 : s1.size ≤ maxLen := by
    obtain ⟨fuel, hf⟩ := h1
    obtain ⟨s, e, hs⟩ := open_stringK (by simpa [Value.cells] using hf)
    cases e; exact hs
  have z3 : -9223372036854775808 ≤ n3 ∧ n3 ≤ 9223372036854775807 := by
    obtain ⟨fuel, hf⟩ := h3
    obtain ⟨s, e, hs⟩ := open_intK (by simpa [Value.cells] using hf)
    cases e; exact hs
  obtain ⟨hn, hc, ins, w4⟩ : len2 ≤ 5864062014805 ∧ len2 ≤ cap2 ∧ ∃ ins : Nat → In, len2 = 0 ∨ ∃ b off, a2 = some ⟨b, off, none⟩ ∧ b < W.heap.size ∧ InsAt W b off len2 ins := by
    obtain ⟨fuel, hf⟩ := h2
    exact open_insK (by simpa [Value.cells] using hf) (fun el sp he => hz' el sp (by simp [← he]))
  clear hA0 hval0
  refine (alike_walk progOk progMore s0 s1 a2 len2 cap2 n3 ins W z0 z1 z3.1 z3.2 hn hc w4).mono fun e W' ⟨he, bel⟩ => ?_
  subst he
  exact ⟨_, rfl, _, _, _, [], _, [], hW', trodAll_mk1 (shut_bool Try.underlying4 _),
    (trodAll_cons_mk (Below.trod laidOutK (by kernel_rfl) (of_decide_eq_true (by kernel_rfl)) k0 bel lt0)
      (trodAll_cons_mk (Below.trod laidOutK (by kernel_rfl) (of_decide_eq_true (by kernel_rfl)) k1 bel lt1)
        (trodAll_cons_mk (Below.trod laidOutK (by kernel_rfl) (of_decide_eq_true (by kernel_rfl)) k2 bel lt2)
          (trodAll_cons_mk (Below.trod laidOutK (by kernel_rfl) (of_decide_eq_true (by kernel_rfl)) k3 bel lt3) trodAll_mk0)))), rfl, bel.frame _, fun h => by cases h⟩

/-- THE STATEMENT. -/
theorem alike_holds : Rows.AlikeSaid :=
  OpenClaim.holds_of_wide 7 Try.f7 rfl rfl rfl rfl rfl rfl rfl ⟨rfl, rfl, rfl, rfl, rfl⟩ rfl rfl rfl rfl rfl (by kernel_rfl) Try.func7 (by kernel_rfl)
    (of_decide_eq_true (by kernel_rfl)) (by unfold Func.isWrapper; first | (rw [if_pos (by decide +kernel)]; kernel_rfl) | (rw [if_neg (by decide +kernel)]; exact ⟨rfl, rfl⟩))
    (fun os started H enc _ => liftedL os started H enc)

#print axioms alike_holds
end Go.Proofs.Ytikdbpphbdbdnaa
