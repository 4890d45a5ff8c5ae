/- The program's board: what is deferred in a step: nothing, or a trap is caught. -/
import Derived.Test.YtikdbpphbdbdnaaGreatXb
import Derived.Recover
namespace Go.Proofs.YtikdbpphbdbdnaaGreat
open Go.RowKit
set_option linter.unusedVariables false

set_option maxRecDepth 100000 in
set_option maxHeartbeats 1000000 in
theorem catch_idle (p1 p2 : Addr) (w : World) :
    CallsD Tryz.prog 63 #[.pointer (some p1), .pointer (some p2)] .returning w fun e u' w' => e = .returned (.tuple #[]) ∧ u' = .returning ∧ w' = w := by
  refine callsD_of_wpS Tryz.func63 rfl fun c₀ cs hu => ?_
  apply wpS_seq
  apply wpS_region
  simp [wpOpsS, go_sem, recoverD, hu, Tryz.ntmps63, Exit.thenS]
  refine wpS_of_wp ?_
  go_wp2
  exact ⟨rfl, .returning, by rw [← hu], .tuple #[], by simp [results, Tryz.results63], rfl, rfl, rfl⟩

theorem ta_trap (v : Value) (w : World) : (Instr.typeAssert (.iface 150 v) 20 150 true).run Tryz.prog w = .ok (.tuple #[v, .bool true]) w := by kernel_rfl

theorem eq_nil (t : TypeId) (v : Value) (w : World) : (binOp .eql 20 (.iface t v) .nilIface).run Tryz.prog w = .ok (.bool false) w := by
  have h : ∀ d : Nat, (Op.equalIn (d + 1) 20 (.iface t v) .nilIface).run Tryz.prog w = .ok false w := fun d => by simp [Op.equalIn, run_underlying Tryz.underlying20]
  simp only [binOp]
  simp [Op.equal, Op.maxDepth, h 9999]

set_option maxRecDepth 100000 in
set_option maxHeartbeats 2000000 in
theorem catch_trap {l : XL} {S : St} {F : Ext} {w : World} (hr : XRep l S F w) (hb : S.bank = 0 ∨ S.bank = 1) (pb ps : Nat) (hnb : ¬ l.own pb) (hns : ¬ l.own ps) (hpb : w.cell? ⟨pb, 0, none⟩ = some (.pointer (some ⟨l.g, 0, none⟩))) (k0 k1 k2 k3 : Int)
    (s0 : w.cell? ⟨ps, 0, none⟩ = some (.int .i64 k0)) (s1 : w.cell? ⟨ps, 1, none⟩ = some (.int .i64 k1)) (s2 : w.cell? ⟨ps, 2, none⟩ = some (.int .u8 k2)) (s3 : w.cell? ⟨ps, 3, none⟩ = some (.int .u8 k3))
    (f0 : w.frozen? ⟨ps, 0, none⟩ = false) (f1 : w.frozen? ⟨ps, 1, none⟩ = false) (f2 : w.frozen? ⟨ps, 2, none⟩ = false) (f3 : w.frozen? ⟨ps, 3, none⟩ = false) (k a d : Int) :
    CallsD Tryz.prog 63 #[.pointer (some ⟨pb, 0, none⟩), .pointer (some ⟨ps, 0, none⟩)] (.panicking [{ v := .iface 150 (.agg #[.int .i64 k, .int .i64 a, .int .u8 d, .int .u8 0]), recovered := false }]) w fun e u' w' => e = .returned (.tuple #[]) ∧ u' = .panicking [{ v := .iface 150 (.agg #[.int .i64 k, .int .i64 a, .int .u8 d, .int .u8 0]), recovered := true }] ∧ XRep l (S.reset 4) F w' ∧ Kept (fun b => l.own b ∨ b = ps) w w' ∧ w'.cell? ⟨ps, 0, none⟩ = some (.int .i64 k) ∧ w'.cell? ⟨ps, 1, none⟩ = some (.int .i64 a) ∧ w'.cell? ⟨ps, 2, none⟩ = some (.int .u8 d) ∧ w'.cell? ⟨ps, 3, none⟩ = some (.int .u8 S.out) := by
  have hlb : pb < w.heap.size := lt_of_cell hpb
  have hls : ps < w.heap.size := lt_of_cell s0
  have ht := ta_trap
  have he := eq_nil
  have HB : Hid _ := hb
  have HO : Hid ((S.reset 4).out = S.out) := reset_out S 4
  clear hb
  refine callsD_of_wpS Tryz.func63 rfl fun c₀ cs hu => ?_
  apply wpS_seq
  apply wpS_region
  simp [wpOpsS, go_sem, recoverD, hu, Tryz.ntmps63, Exit.thenS]
  refine wpS_of_wp ?_
  rw [show (#[Value.pointer (some ⟨pb, 0, none⟩), Value.pointer (some ⟨ps, 0, none⟩)] ++ (Array.replicate 15 undef).setIfInBounds 3 (Value.iface 150 (Value.agg #[Value.int .i64 k, Value.int .i64 a, Value.int .u8 d, Value.int .u8 0]))) = #[Value.pointer (some ⟨pb, 0, none⟩), Value.pointer (some ⟨ps, 0, none⟩), undef, undef, undef, Value.iface 150 (Value.agg #[Value.int .i64 k, Value.int .i64 a, Value.int .u8 d, Value.int .u8 0]), undef, undef, undef, undef, undef, undef, undef, undef, undef, undef, undef] from rfl]
  go_wp2_with fail
  refine (xreset_yes (hr.alloc _) 4 (Or.inr (Or.inr rfl)) HB.out).mono ?_
  rintro e w1 ⟨rfl, hr1, k1'⟩
  obtain ⟨hc, hf⟩ := kcell k1' (b := pb) (by simp; omega) hnb
  obtain ⟨hc2, hf2⟩ := kcell k1' (b := ps) (by simp; omega) hns
  obtain ⟨hc3, hf3⟩ := kcell k1' (b := w.heap.size) (by simp) (hr.fresh _ (Nat.le_refl _))
  have q0 : w1.cell? ⟨pb, 0, none⟩ = some (.pointer (some ⟨l.g, 0, none⟩)) := by rw [hc]; rw [World.cell?_alloc_past _ _ _ hlb]; exact hpb
  have a0 : w1.cell? ⟨w.heap.size, 0, none⟩ = some (.int .i64 k) := by rw [hc3]; simp [go_sem]
  have a1 : w1.cell? ⟨w.heap.size, 1, none⟩ = some (.int .i64 a) := by rw [hc3]; simp [go_sem]
  have a2 : w1.cell? ⟨w.heap.size, 2, none⟩ = some (.int .u8 d) := by rw [hc3]; simp [go_sem]
  have a3 : w1.cell? ⟨w.heap.size, 3, none⟩ = some (.int .u8 0) := by rw [hc3]; simp [go_sem]
  have b0 : w1.cell? ⟨ps, 0, none⟩ = some (.int .i64 k0) := by rw [hc2, World.cell?_alloc_past _ _ _ hls]; exact s0
  have b1 : w1.cell? ⟨ps, 1, none⟩ = some (.int .i64 k1) := by rw [hc2, World.cell?_alloc_past _ _ _ hls]; exact s1
  have b2 : w1.cell? ⟨ps, 2, none⟩ = some (.int .u8 k2) := by rw [hc2, World.cell?_alloc_past _ _ _ hls]; exact s2
  have b3 : w1.cell? ⟨ps, 3, none⟩ = some (.int .u8 k3) := by rw [hc2, World.cell?_alloc_past _ _ _ hls]; exact s3
  have g0 : w1.frozen? ⟨ps, 0, none⟩ = false := by rw [hf2]; simp [go_sem, hls]; exact f0
  have g1 : w1.frozen? ⟨ps, 1, none⟩ = false := by rw [hf2]; simp [go_sem, hls]; exact f1
  have g2 : w1.frozen? ⟨ps, 2, none⟩ = false := by rw [hf2]; simp [go_sem, hls]; exact f2
  have g3 : w1.frozen? ⟨ps, 3, none⟩ = false := by rw [hf2]; simp [go_sem, hls]; exact f3
  have hls1 : ps < w1.heap.size := lt_of_cell b0
  have kk : Kept (fun b => l.own b ∨ b = ps) w w1 := ((Kept.refl _ w).alloc _).trans (k1'.wide (fun _ x => Or.inl x))
  clear hc hf hc2 hf2 hc3 hf3 k1' s0 s1 s2 s3 f0 f1 f2 f3 hpb
  go_wp2_with fail
  refine (xshow_any hr1 k a d 0).mono ?_
  rintro e w2 ⟨rfl, k2'⟩
  rw [HO.out]
  obtain ⟨hc2, hf2⟩ := kcell k2' (b := ps) hls1 (fun x => x)
  have d0 : w2.cell? ⟨ps, 0, none⟩ = some (.int .i64 k0) := by rw [hc2]; exact b0
  have d1 : w2.cell? ⟨ps, 1, none⟩ = some (.int .i64 k1) := by rw [hc2]; exact b1
  have d2 : w2.cell? ⟨ps, 2, none⟩ = some (.int .u8 k2) := by rw [hc2]; exact b2
  have d3 : w2.cell? ⟨ps, 3, none⟩ = some (.int .u8 k3) := by rw [hc2]; exact b3
  have e0 : w2.frozen? ⟨ps, 0, none⟩ = false := by rw [hf2]; exact g0
  have e1 : w2.frozen? ⟨ps, 1, none⟩ = false := by rw [hf2]; exact g1
  have e2 : w2.frozen? ⟨ps, 2, none⟩ = false := by rw [hf2]; exact g2
  have e3 : w2.frozen? ⟨ps, 3, none⟩ = false := by rw [hf2]; exact g3
  have hr2 : XRep l (S.reset 4) F w2 := hr1.kept k2' (fun _ _ x => x)
  have kk2 := kk.trans (k2'.wide (fun _ x => x.elim))
  clear hc2 hf2 k2' kk b0 b1 b2 b3 g0 g1 g2 g3 a0 a1 a2 a3
  go_wp2
  refine ⟨rfl, .panicking [{ v := .iface 150 (.agg #[.int .i64 k, .int .i64 a, .int .u8 d, .int .u8 0]), recovered := true }], rfl, .tuple #[], by simp [results, Tryz.results63], rfl, rfl, ?r, ?k, ?c0, ?c1, ?c2, ?c3⟩
  case r => repeat (with_reducible first | refine XRep.other ?_ hns _ | exact hr2)
  case k => exact (((kk2.setCell (b := ps) (Or.inl (Or.inr rfl)) _).setCell (b := ps) (Or.inl (Or.inr rfl)) _).setCell (b := ps) (Or.inl (Or.inr rfl)) _).setCell (b := ps) (Or.inl (Or.inr rfl)) _
  case c0 => simp [go_sem, d0]
  case c1 => simp [go_sem, d1]
  case c2 => simp [go_sem, d2]
  case c3 => simp [go_sem, d3]

end Go.Proofs.YtikdbpphbdbdnaaGreat
