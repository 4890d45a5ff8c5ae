/- The program's board: Tell, as it is called. -/
import Derived.Test.YtommhbidkoeifaaGreatBoard14
namespace Go.Proofs.YtommhbidkoeifaaGreat
open Go.RowKit
set_option linter.unusedVariables false

set_option maxRecDepth 100000 in
set_option maxHeartbeats 1000000 in
theorem nTell_any {n : Nat} (hn : n < 4611686018427387903) {l : XL} {st : St} {ex : Ext} {w : World} (hr : XRep l st ex w) (hi : Inv st) (h : XOk n st ex) :
    Calls Tryz.prog 34 #[.pointer (some ⟨l.nb, 0, none⟩)] w fun e w' => e = .returned st.told ∧ Still w w' := by
  have c0 := hr.c_nb0
  have hnl : l.nb < w.heap.size := hr.lt (Or.inl ⟨0, by omega, rfl⟩)
  have H : Hid (∀ W, XRep l st ex W → Calls Tryz.prog 49 #[.pointer (some ⟨l.g, 0, none⟩)] W fun e w' => e = .returned st.told ∧ Still W w') := fun W hW => xTell_any hn hW hi h
  have HZ : Hid (∀ W, Still (w.alloc (.cells #[.int .i64 0, .int .i64 0, .int .i64 0, .bool false, .bool false, .int .i64 0, .int .i64 0, .int .i64 0, .int .i64 0, .int .i64 0, .int .i64 0, .bool false] 81)) W → (W.cell? ⟨w.heap.size, 0, none⟩ = some (.int .i64 0) ∧ W.cell? ⟨w.heap.size, 1, none⟩ = some (.int .i64 0) ∧ W.cell? ⟨w.heap.size, 2, none⟩ = some (.int .i64 0) ∧ W.cell? ⟨w.heap.size, 3, none⟩ = some (.bool false) ∧ W.cell? ⟨w.heap.size, 4, none⟩ = some (.bool false) ∧ W.cell? ⟨w.heap.size, 5, none⟩ = some (.int .i64 0) ∧ W.cell? ⟨w.heap.size, 6, none⟩ = some (.int .i64 0) ∧ W.cell? ⟨w.heap.size, 7, none⟩ = some (.int .i64 0) ∧ W.cell? ⟨w.heap.size, 8, none⟩ = some (.int .i64 0) ∧ W.cell? ⟨w.heap.size, 9, none⟩ = some (.int .i64 0) ∧ W.cell? ⟨w.heap.size, 10, none⟩ = some (.int .i64 0) ∧ W.cell? ⟨w.heap.size, 11, none⟩ = some (.bool false)) ∧ (W.frozen? ⟨w.heap.size, 0, none⟩ = false ∧ W.frozen? ⟨w.heap.size, 1, none⟩ = false ∧ W.frozen? ⟨w.heap.size, 2, none⟩ = false ∧ W.frozen? ⟨w.heap.size, 3, none⟩ = false ∧ W.frozen? ⟨w.heap.size, 4, none⟩ = false ∧ W.frozen? ⟨w.heap.size, 5, none⟩ = false ∧ W.frozen? ⟨w.heap.size, 6, none⟩ = false ∧ W.frozen? ⟨w.heap.size, 7, none⟩ = false ∧ W.frozen? ⟨w.heap.size, 8, none⟩ = false ∧ W.frozen? ⟨w.heap.size, 9, none⟩ = false ∧ W.frozen? ⟨w.heap.size, 10, none⟩ = false ∧ W.frozen? ⟨w.heap.size, 11, none⟩ = false) ∧ w.heap.size < W.heap.size) := fun W hW => by
    obtain ⟨y, z⟩ := kcell hW (b := w.heap.size) (by simp) (fun x => x)
    refine ⟨⟨?_, ?_, ?_, ?_, ?_, ?_, ?_, ?_, ?_, ?_, ?_, ?_⟩, ⟨?_, ?_, ?_, ?_, ?_, ?_, ?_, ?_, ?_, ?_, ?_, ?_⟩, ?_⟩
    iterate 12 (rw [y]; simp [go_sem])
    iterate 12 (rw [z]; simp [go_sem])
    have := hW.size
    simp at this
    omega
  clear hi h
  unfold St.told at H ⊢
  go_enter Tryz.func34, Tryz.ntmps34
  go_wp2_with (go_at_call 49; refine Calls.mono (H.out _ (by (repeat (with_reducible first | apply XRep.alloc | apply XRep.drew | exact hr)))) ?_; rintro e w1 ⟨rfl, k1⟩; obtain ⟨⟨z0, z1, z2, z3, z4, z5, z6, z7, z8, z9, z10, z11⟩, ⟨y0, y1, y2, y3, y4, y5, y6, y7, y8, y9, y10, y11⟩, hz⟩ := HZ.out _ k1)
  refine bodyPost_ret (v := .agg #[.int .i64 st.a, .int .i64 st.x, .int .i64 st.pc, .bool st.zero, .bool st.carry, .int .i64 st.bank, .int .i64 st.s0, .int .i64 st.s1, .int .i64 st.cause, .int .i64 st.age, .int .i64 st.count, .bool st.flag]) (by simp [results, Tryz.results34, go_sem, z0, z1, z2, z3, z4, z5, z6, z7, z8, z9, z10, z11]) rfl ⟨rfl, ?_⟩
  have k2 : Kept (fun _ => False) w w1 := Kept.trans ((Kept.refl _ w).alloc _) k1
  show Kept (fun _ => False) w _
  (repeat (with_reducible first | apply Kept.alloc | apply Kept.drewN | apply Kept.drew | apply Kept.nb | apply Kept.g | apply Kept.bs | apply Kept.ck | apply Kept.bk | apply Kept.tm | apply Kept.wa | apply Kept.po | apply Kept.up | apply Kept.re | apply Kept.me | refine Kept.setCell ?_ (Or.inr (Nat.le_refl _)) _ | refine Kept.setCell ?_ (Or.inr (by omega)) _ | exact k1 | exact k2 | exact k3 | exact Kept.refl _ _))

end Go.Proofs.YtommhbidkoeifaaGreat
