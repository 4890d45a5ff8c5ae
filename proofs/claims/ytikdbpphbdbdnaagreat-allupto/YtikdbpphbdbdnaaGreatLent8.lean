/- runs of a nil list; runs of whatever list. -/
import Derived.Test.YtikdbpphbdbdnaaGreatLent7
namespace Go.Proofs.YtikdbpphbdbdnaaGreat
open Go.RowKit
set_option linter.unusedVariables false

set_option maxRecDepth 100000 in
set_option maxHeartbeats 2000000 in
theorem runs_nil {B : PB} (hB : PBok B) (hMo : PBmore B) {cy g base : Nat} {ρ : Nat → Nat} {s : Ls} {L : Lay} {l : B.Lt} {st : St} {w : World} (hb : Both B cy L l st w) (h : BookL g base ρ s w) (hbz : base ≤ w.heap.size) (hown : ∀ k, bothOwn B L l k → base ≤ k ∧ ρ k = 0)
    (lc : Nat) (hcy : cy < 1152921504606846976) (hl1 : s.ws.length ≤ 2097152) :
    Calls Tryz.prog 17 #[.pointer (some ⟨g, 0, none⟩), .agg #[.pointer (some ⟨B.g l, 0, none⟩), .pointer (some ⟨L.g, 0, none⟩)], .slice none 0 lc] w fun e w' => e = .returned (.bool true) ∧ RunsPost B cy g base ρ s L l w w' := by
  have hg := lt_of_cell h.c1
  have hownz : ∀ k, bothOwn B L l k → k < w.heap.size := fun k hk => hb.lt hB hk
  have hgo : ∀ k, bothOwn B L l k → k ≠ g := fun k hk e => by have := (hown k hk).1; have := h.gb; omega
  have hlo0 : ∀ k, w.heap.size ≤ k → ρ k = 0 := fun k hk => Classical.byContradiction fun x => by have := (h.lo k x).2; omega
  have HLn : Hid (∀ W, Calls Tryz.prog 31 #[.slice none 0 lc] W fun e w' => e = .returned (.slice none 0 0) ∧ w' = W) := fun W => lent_nil W 0 lc
  have HWn : Hid (∀ W, Calls Tryz.prog 33 #[.pointer (some ⟨g, 0, none⟩), .slice none 0 0, .slice none 0 lc] W fun e w' => e = .returned (.bool true) ∧ w' = W) := fun W => whole_nil g 0 0 0 lc none W
  go_enter Tryz.func17, Tryz.ntmps17
  go_wp2_with fail
  obtain ⟨W0, hW0⟩ : ∃ W0 : World, W0 = w.alloc (.cells #[.pointer (some ⟨B.g l, 0, none⟩), .pointer (some ⟨L.g, 0, none⟩)] 47) := ⟨_, rfl⟩
  have z0 : W0.heap.size = w.heap.size + 1 := by rw [hW0, World.size_alloc]
  have k0 : Kept (fun _ => False) w W0 := by rw [hW0]; exact (Kept.refl _ w).alloc _
  have cp0 : W0.cell? ⟨w.heap.size, 0, none⟩ = some (.pointer (some ⟨B.g l, 0, none⟩)) := by rw [hW0]; simp [go_sem]
  rw [← hW0]
  clear hW0
  refine Calls.mono (HLn.out _) ?_
  rintro e w1 ⟨rfl, hv⟩
  obtain rfl := hv.symm
  have hx1 : B.rep cy l st W0 := hB.kept hb.x k0 (fun _ _ x => x)
  have HR : Hid _ := hMo.run cy l st W0 none 0 0 (fun _ => ⟨false, 0, 0⟩) hx1 (by omega) (by omega) hb.inv (Or.inl rfl)
  go_wp2_with fail
  refine Calls.mono HR.out ?_
  rintro e w2 ⟨c, rfl, hc1, hc2, hcys, l', hgl, hx2, k12, ho2, hnc⟩
  clear HR
  have zs12 := k12.size
  have k02 : Kept (B.own l) w w2 := (k0.wide (fun _ x => x.elim)).trans k12
  have h2 : BookL g base ρ s w2 := h.kept k02 (fun x => hgo g (Or.inr x) rfl) (fun k x => (hown k (Or.inr x)).2)
  have hr2 : Rep L st w2 := hb.r.kept k02 (fun k hk x => hb.apart k hk x)
  have nLg : ∀ k, L.own k → k ≠ g ∧ k < w.heap.size ∧ ρ k = 0 ∧ base ≤ k := fun k hk => ⟨hgo k (Or.inl hk), hownz k (Or.inl hk), (hown k (Or.inl hk)).2, (hown k (Or.inl hk)).1⟩
  have nl' : ∀ k, B.own l' k → (B.own l k ∨ W0.heap.size ≤ k) ∧ k < w2.heap.size ∧ base ≤ k ∧ ρ k = 0 := fun k hk => by
    have hz := hB.lt hx2 hk
    rcases ho2 k hk with x | x
    · have := hown k (Or.inr x); have := hownz k (Or.inr x); exact ⟨Or.inl x, hz, by omega, by omega⟩
    · exact ⟨Or.inr x, hz, by omega, hlo0 k (by omega)⟩
  have hρc : ρ c = 0 := hlo0 c (by omega)
  have hcL : ¬ L.own c := fun x => by have := (nLg c x).2.1; omega
  have ap : ∀ k, L.own k → ¬ B.own l' k := fun k hk x => by
    have q2 := (nLg k hk).2.1
    rcases (nl' k x).1 with y | y
    · exact hb.apart k hk y
    · omega
  have HK : Hid _ := keep_any g base c 0 s.ws.length s.vw s.vr (s.ws.map waitCell) (s.ws.map (·.v)) (st.cyc fun _ => ⟨false, 0, 0⟩) w2 (by omega) hcys hc2 h.gb (by omega) h2.c2 (h2.fz 2 (by omega) (by omega)) h2.c3 (h2.fz 3 (by omega) (by omega)) h2.rw h2.rr (fun x => by have := h2.bw c x; omega) (fun x => by have := h2.br c x; omega) (fun k x y => by have := h2.bw k x; have := h2.br k y; omega) (by unfold maxLen; omega) (by omega)
  have HEND : Hid (∀ w', KeepPost g base c 0 s.ws.length s.vw s.vr (s.ws.map waitCell) (s.ws.map (·.v)) (st.cyc fun _ => ⟨false, 0, 0⟩) w2 w' → RunsPost B cy g base ρ s L l w w') := fun w' hp => by
    obtain ⟨ρ', s', h5, u1, u2, u3, u4, u5, u6⟩ := h2.wait hρc (by omega) hc2 (by omega) hcys hp
    have nfin : ∀ k, base ≤ k → ρ k = 0 → ¬ (k = g ∨ ρ k ≠ 0) := fun k q0 q1 x => by rcases x with x | x; have := h.gb; omega; exact x q1
    refine ⟨ρ', s', l', st, h5, hgl, ⟨hr2.kept u6 (fun k hk => nfin k (nLg k hk).2.2.2 (nLg k hk).2.2.1), hB.kept hx2 u6 (fun k hk => nfin k (nl' k hk).2.2.1 (nl' k hk).2.2.2), hb.inv, ap⟩, fun k hk => ?_, fun k hk => ?_, fun k hk hk0 => ?_, ?_, u1, u2, by rw [u3]; omega, by rw [u4]; omega, ?_, ?_⟩
    · rcases (nl' k hk).1 with y | y
      · exact Or.inl y
      · exact Or.inr (by omega)
    · rcases hk with hk | hk
      · exact u5 k (by have := (nLg k hk).2.1; omega) (fun x => hcL (x ▸ hk)) (nLg k hk).2.2.1
      · exact u5 k (nl' k hk).2.1 (fun x => hnc (x ▸ hk)) (nl' k hk).2.2.2
    · exact u5 k (by omega) (by omega) hk0
    · refine ⟨u6.os.trans k02.os, u6.tape.trans k02.tape, u6.output.trans k02.output, by have := u6.size; omega, fun k hk hS => ?_⟩
      exact (u6.block k (by omega) (fun x => by rcases x with x | x; exact hS (Or.inl x); exact hS (Or.inr (Or.inl x)))).trans (k02.block k hk (fun x => hS (Or.inr (Or.inr (Or.inr x)))))
    · obtain ⟨_, _, _, _, _, _, _, _, _, _, _, _, _, _, _, hco, hfo⟩ := hp
      exact (hco 0 (by omega) (by omega)).trans (k02.cell hg (fun x => hgo g (Or.inr x) rfl) 0)
    · obtain ⟨_, _, _, _, _, _, _, _, _, _, _, _, _, _, _, hco, hfo⟩ := hp
      exact (hfo 0).trans (k02.frozen hg (fun x => hgo g (Or.inr x) rfl) 0)
  clear hcys hx2 k12
  go_wp2_with fail
  refine Calls.mono (HWn.out _) ?_
  rintro e w3 ⟨rfl, hv⟩
  obtain rfl := hv.symm
  go_wp2
  go_loopw [10, 11] (fun t10 t11 wx => t10 = .bool true ∧ t11 = .int .i64 0 ∧ wx = w2) (fun _ _ _ => 0)
  case atStart => exact ⟨rfl, rfl, rfl⟩
  case round =>
    obtain ⟨rfl, rfl, rfl⟩ := hrel
    go_wp2_with fail
    refine Calls.mono HK.out ?_
    rintro e w' ⟨rfl, hp⟩
    go_wp2
    go_ret
    exact ⟨rfl, HEND.out _ hp⟩

/-- Whatever the list. -/
theorem runs_any {B : PB} (hB : PBok B) (hMo : PBmore B) {cy g base : Nat} {ρ : Nat → Nat} {s : Ls} {L : Lay} {l : B.Lt} {st : St} {w : World} (hb : Both B cy L l st w) (h : BookL g base ρ s w) (hbz : base ≤ w.heap.size) (hown : ∀ k, bothOwn B L l k → base ≤ k ∧ ρ k = 0)
    (la : Option Addr) (ll lc : Nat) (hnil : la = none → ll = 0) (hin : IsIns w (fun k => k < base ∧ k ≠ g) la ll) (hll : ll ≤ 1048576) (hcy : cy + 1048576 < 1152921504606846976) (hm : s.m ≤ 4611686018427387904) (hl1 : s.ws.length ≤ 2097152) (hl2 : s.le.length ≤ 2097152) :
    Calls Tryz.prog 17 #[.pointer (some ⟨g, 0, none⟩), .agg #[.pointer (some ⟨B.g l, 0, none⟩), .pointer (some ⟨L.g, 0, none⟩)], .slice la ll lc] w fun e w' => e = .returned (.bool true) ∧ RunsPost B (cy + 1048576) g base ρ s L l w w' := by
  have up : ∀ n w', n ≤ cy + 1048576 → RunsPost B n g base ρ s L l w w' → RunsPost B (cy + 1048576) g base ρ s L l w w' := fun n w' hn ⟨a1, a2, a3, a4, a5, a6, a7, a8⟩ => ⟨a1, a2, a3, a4, a5, a6, a7.more hB hn, a8⟩
  cases la with
  | none =>
    obtain rfl := hnil rfl
    exact (runs_nil hB hMo hb h hbz hown lc (by omega) hl1).mono fun e w' ⟨q1, q2⟩ => ⟨q1, up cy w' (by omega) q2⟩
  | some a =>
    have each : ∃ ins : Nat → In, ll = 0 ∨ ∃ b off, a = ⟨b, off, none⟩ ∧ b < base ∧ b ≠ g ∧ InsAt w b off ll ins := by
      rcases hin with x | ⟨b, off, e, hT, hz, hc⟩
      · exact ⟨fun _ => ⟨false, 0, 0⟩, Or.inl x⟩
      · have e2 : ∀ i, ∃ x : In, i < ll → 0 ≤ x.port ∧ x.port ≤ 255 ∧ w.cell? ⟨b, off + i * 3, none⟩ = some (.bool x.reset) ∧ w.cell? ⟨b, off + i * 3 + 1, none⟩ = some (.int .i64 x.volts) ∧ w.cell? ⟨b, off + i * 3 + 2, none⟩ = some (.int .u8 x.port) := fun i => by
          by_cases hi : i < ll
          · obtain ⟨rs, v, p, q0, q1, q2, q3, q4⟩ := hc i hi
            exact ⟨⟨rs, v, p⟩, fun _ => ⟨q0, q1, q2, q3, q4⟩⟩
          · exact ⟨⟨false, 0, 0⟩, fun x => absurd x hi⟩
        exact ⟨fun i => (e2 i).choose, Or.inr ⟨b, off, Option.some.inj e, hT.1, hT.2, fun i hi => (e2 i).choose_spec hi⟩⟩
    obtain ⟨ins, hi⟩ := each
    exact (runs_some hB hMo hb h hbz hown a ll lc ins hi hll (by omega) hm hl1 hl2).mono fun e w' ⟨q1, q2⟩ => ⟨q1, up _ w' (by omega) q2⟩

end Go.Proofs.YtikdbpphbdbdnaaGreat
