/- The program's board: Step and Tell, as they are called. -/
import Derived.Test.YtommhbidkoeifaaGreatBoard12
namespace Go.Proofs.YtommhbidkoeifaaGreat
open Go.RowKit
set_option linter.unusedVariables false

set_option maxRecDepth 100000 in
set_option maxHeartbeats 2000000 in
theorem nStep_any {n : Nat} (hn : n < 4611686018427387903) {l : XL} {st : St} {ex : Ext} {w : World} (hr : XRep l st ex w) (hi : Inv st) (h : XOk n st ex) (rs : Bool) (v p : Int) (hp0 : 0 ≤ p) (hp1 : p ≤ 255) :
    Calls Tryz.prog 45 #[.pointer (some ⟨l.nb, 0, none⟩), .agg #[.bool rs, .int .i64 v, .int .u8 p]] w fun e w' => e = .returned (.agg #[.int .i64 (st.step ⟨rs, v, p⟩).2.kind, .int .i64 (st.step ⟨rs, v, p⟩).2.addr, .int .u8 (st.step ⟨rs, v, p⟩).2.data, .int .u8 (st.step ⟨rs, v, p⟩).2.out]) ∧ ∃ E, Went l (st.step ⟨rs, v, p⟩).1 E w w' ∧ XOk (n + 1) (st.step ⟨rs, v, p⟩).1 E := by
  have c0 := hr.c_nb0
  have hfr := hr.fresh
  have hnl : l.nb < w.heap.size := hr.lt (Or.inl ⟨0, by omega, rfl⟩)
  have H : Hid (Calls Tryz.prog 53 #[.pointer (some ⟨l.g, 0, none⟩), .agg #[.bool rs, .int .i64 v, .int .u8 p]] ((w.alloc (.cells #[.bool rs, .int .i64 v, .int .u8 p] 40)).alloc (.cells #[.int .i64 0, .int .i64 0, .int .u8 0, .int .u8 0] 54)).drew fun e w' => e = .returned (.agg #[.int .i64 (st.step ⟨rs, v, p⟩).2.kind, .int .i64 (st.step ⟨rs, v, p⟩).2.addr, .int .u8 (st.step ⟨rs, v, p⟩).2.data, .int .u8 (st.step ⟨rs, v, p⟩).2.out]) ∧ CyAt w' (w.heap.size + 1) 0 0 0 0 ∧ ∃ E l2, Grew l l2 w ∧ XRep l2 (st.step ⟨rs, v, p⟩).1 E w' ∧ Kept l.own w w' ∧ XOk (n + 1) (st.step ⟨rs, v, p⟩).1 E ∧ ¬ l2.own (w.heap.size + 1)) := by
    have k0 : Kept l.own w ((w.alloc (.cells #[.bool rs, .int .i64 v, .int .u8 p] 40)).alloc zc).drew := (((Kept.refl _ _).alloc _).alloc _).drew
    have e0 : ((w.alloc (.cells #[.bool rs, .int .i64 v, .int .u8 p] 40)).alloc zc).drew.heap[w.heap.size + 1]? = some zc := by
      have := zc_new (w.alloc (.cells #[.bool rs, .int .i64 v, .int .u8 p] 40))
      have e2 : (w.alloc (.cells #[.bool rs, .int .i64 v, .int .u8 p] 40)).heap.size = w.heap.size + 1 := by simp
      rw [e2] at this
      exact this
    refine (xStep_any hn ((hr.alloc _).alloc zc).drew hi h rs v p hp0 hp1).mono fun e w' ⟨q1, E, ⟨l2, q2, q3, q4⟩, q5⟩ => ?_
    have hlt := (Array.getElem?_eq_some_iff.1 e0).1
    refine ⟨q1, CyAt.of ((q4.block _ hlt (hfr _ (by omega))).trans e0), E, l2, q2.later k0.size, q3, k0.trans q4, q5, q2.out hr (by omega) hlt⟩
  generalize st.step ⟨rs, v, p⟩ = R at H ⊢
  clear hi h hp0 hp1
  go_enter Tryz.func45, Tryz.ntmps45
  go_wp2
  go_region_with (go_at_call 53; refine Calls.mono H.out ?_; rintro e w1 ⟨rfl, ⟨⟨x0, x1, x2, x3⟩, ⟨y0, y1, y2, y3⟩, hz⟩, E, l2, g2, r2, k2, q5, hno⟩)
  all_goals
    go_wp2
    refine bodyPost_ret (v := .agg #[.int .i64 R.2.kind, .int .i64 R.2.addr, .int .u8 R.2.data, .int .u8 R.2.out]) (by simp [results, Tryz.results45, go_sem, x0, x1, x2, x3]) rfl ⟨rfl, E, ⟨l2, g2, ?r, ?k⟩, q5⟩
    case r => repeat (with_reducible first | refine XRep.other ?_ hno _ | exact r2)
    case k => (repeat (with_reducible first | apply Kept.alloc | apply Kept.drewN | apply Kept.drew | apply Kept.nb | apply Kept.g | apply Kept.bs | apply Kept.ck | apply Kept.bk | apply Kept.tm | apply Kept.wa | apply Kept.po | apply Kept.up | apply Kept.re | apply Kept.me | refine Kept.setCell ?_ (Or.inr (Nat.le_refl _)) _ | refine Kept.setCell ?_ (Or.inr (by omega)) _ | exact k1 | exact k2 | exact k3 | exact Kept.refl _ _))

end Go.Proofs.YtommhbidkoeifaaGreat
