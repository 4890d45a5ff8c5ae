/- runs: Run of the program's board against Step of the document's, again and again; the list that comes out is the caller's. -/
import Derived.Test.YtikdbpphbdbdnaaGreatLent6
namespace Go.Proofs.YtikdbpphbdbdnaaGreat
open Go.RowKit
set_option linter.unusedVariables false

/-- What runs leaves. -/
def RunsPost (B : PB) (cy g base : Nat) (ρ : Nat → Nat) (s : Ls) (L : Lay) (l : B.Lt) (w w' : World) : Prop :=
  ∃ (ρ' : Nat → Nat) (s' : Ls) (l' : B.Lt) (st' : St), BookL g base ρ' s' w' ∧ B.g l' = B.g l ∧ Both B cy L l' st' w' ∧ (∀ k, B.own l' k → B.own l k ∨ w.heap.size ≤ k) ∧ (∀ k, bothOwn B L l' k → ρ' k = 0) ∧ (∀ k, k < w.heap.size → ρ k = 0 → ρ' k = 0) ∧ Kept (fun k => k = g ∨ ρ k ≠ 0 ∨ bothOwn B L l k) w w' ∧
    s'.ws.length = s.ws.length + 1 ∧ s'.se = s.se ∧ s'.le.length ≤ s.le.length + 1 ∧ s'.m ≤ s.m + 1 ∧ w'.cell? ⟨g, 0, none⟩ = w.cell? ⟨g, 0, none⟩ ∧ w'.frozen? ⟨g, 0, none⟩ = w.frozen? ⟨g, 0, none⟩

theorem insRaw_at {w : World} {b n : Nat} {ins : Nat → In} (h : InsRaw w b (n + 8) (lentIn ins n)) (hp : ∀ i, i < n → 0 ≤ (ins i).port ∧ (ins i).port ≤ 255) : InsAt w b 0 n ins := fun i hi => by
  have q : ∀ t, t < 3 → w.cell? ⟨b, i * 3 + t, none⟩ = some (inCell (ins i) t) := fun t ht => by
    have h1 := (h (i * 3 + t) (by omega)).1
    have e : lentIn ins n i = ins i := if_pos hi
    dsimp only at h1
    rw [show (i * 3 + t) / 3 = i by omega, show (i * 3 + t) % 3 = t by omega, e] at h1
    exact h1
  refine ⟨(hp i hi).1, (hp i hi).2, ?_, ?_, ?_⟩
  · rw [Nat.zero_add]; exact q 0 (by omega)
  · rw [Nat.zero_add]; exact q 1 (by omega)
  · rw [Nat.zero_add]; exact q 2 (by omega)

set_option maxRecDepth 100000 in
set_option maxHeartbeats 2000000 in
theorem runs_some {B : PB} (hB : PBok B) (hMo : PBmore B) {cy g base : Nat} {ρ : Nat → Nat} {s : Ls} {L : Lay} {l : B.Lt} {st : St} {w : World} (hb : Both B cy L l st w) (h : BookL g base ρ s w) (hbz : base ≤ w.heap.size) (hown : ∀ k, bothOwn B L l k → base ≤ k ∧ ρ k = 0)
    (a : Addr) (ll lc : Nat) (ins : Nat → In) (hin : ll = 0 ∨ ∃ b off, a = ⟨b, off, none⟩ ∧ b < base ∧ b ≠ g ∧ InsAt w b off ll ins) (hll : ll ≤ 1048576) (hcy : cy + ll < 1152921504606846976) (hm : s.m ≤ 4611686018427387904) (hl1 : s.ws.length ≤ 2097152) (hl2 : s.le.length ≤ 2097152) :
    Calls Tryz.prog 17 #[.pointer (some ⟨g, 0, none⟩), .agg #[.pointer (some ⟨B.g l, 0, none⟩), .pointer (some ⟨L.g, 0, none⟩)], .slice (some a) ll lc] w fun e w' => e = .returned (.bool true) ∧ RunsPost B (cy + ll) g base ρ s L l w w' := by
  have hg := lt_of_cell h.c1
  have hports : ∀ i, i < ll → 0 ≤ (ins i).port ∧ (ins i).port ≤ 255 := fun i hi => by
    rcases hin with x | ⟨b, off, _, _, _, y⟩
    · omega
    · exact ⟨(y i hi).1, (y i hi).2.1⟩
  have hinv : ∀ i, i ≤ ll → Inv (st.after ins i) := fun i hi => St.after_inv hb.inv hports i hi
  go_enter Tryz.func17, Tryz.ntmps17
  go_wp2_with fail
  obtain ⟨W0, hW0⟩ : ∃ W0 : World, W0 = w.alloc (.cells #[.pointer (some ⟨B.g l, 0, none⟩), .pointer (some ⟨L.g, 0, none⟩)] 47) := ⟨_, rfl⟩
  have z0 : W0.heap.size = w.heap.size + 1 := by rw [hW0, World.size_alloc]
  have k0 : Kept (fun _ => False) w W0 := by rw [hW0]; exact (Kept.refl _ w).alloc _
  have cp : W0.cell? ⟨w.heap.size, 0, none⟩ = some (.pointer (some ⟨B.g l, 0, none⟩)) ∧ W0.cell? ⟨w.heap.size, 1, none⟩ = some (.pointer (some ⟨L.g, 0, none⟩)) := by
    rw [hW0]
    exact ⟨by simp [go_sem], by simp [go_sem]⟩
  rw [← hW0]
  clear hW0
  have hinW : ∀ (W : World) (S : Nat → Prop), Kept S w W → (∀ k, S k → base ≤ k ∨ k = g) → ll = 0 ∨ ∃ b off, a = ⟨b, off, none⟩ ∧ b < base ∧ b ≠ g ∧ InsAt W b off ll ins := fun W S hk hS => by
    rcases hin with x | ⟨b, off, e, hb1, hb2, y⟩
    · exact Or.inl x
    · exact Or.inr ⟨b, off, e, hb1, hb2, y.kept hk (by omega) (fun x => by rcases hS b x with z | z <;> omega)⟩
  have hownz : ∀ k, bothOwn B L l k → k < w.heap.size := fun k hk => hb.lt hB hk
  have hgo : ∀ k, bothOwn B L l k → k ≠ g := fun k hk e => by have := (hown k hk).1; have := h.gb; omega
  have hlo0 : ∀ k, w.heap.size ≤ k → ρ k = 0 := fun k hk => Classical.byContradiction fun x => by have := (h.lo k x).2; omega
  have HL : Hid _ := lent_any W0 a ll lc ins hll (by
    rcases hinW W0 (fun _ => False) k0 (fun _ x => x.elim) with x | ⟨b, off, e, hb1, hb2, y⟩
    · exact Or.inl x
    · exact Or.inr ⟨b, off, e, by omega, y⟩)
  rw [z0] at HL
  refine Calls.mono HL.out ?_
  rintro e w1 ⟨rfl, ir1, zl1, b1⟩
  clear HL
  have k1 : Kept (fun _ => False) W0 w1 := ⟨b1.os, b1.tape, b1.output, by omega, fun k hk _ => b1.block k (by omega)⟩
  have k01 : Kept (fun _ => False) w w1 := k0.trans k1
  have hx1 : B.rep cy l st w1 := hB.kept hb.x k01 (fun _ _ x => x)
  have hr1 : Rep L st w1 := hb.r.kept k01 (fun _ _ x => x)
  have HR : Hid _ := hMo.run cy l st w1 (some ⟨w.heap.size + 1, 0, none⟩) ll (ll + 8) ins hx1 hcy (by omega) hb.inv (Or.inr ⟨w.heap.size + 1, 0, rfl, zl1, fun x => by have := hownz _ (Or.inr x); omega, insRaw_at ir1 hports⟩)
  obtain ⟨p0c, p0f⟩ := kcell k1 (b := w.heap.size) (by omega) (fun x => x)
  have cp0 : w1.cell? ⟨w.heap.size, 0, none⟩ = some (.pointer (some ⟨B.g l, 0, none⟩)) := (p0c 0).trans cp.1
  have cp1 : w1.cell? ⟨w.heap.size, 1, none⟩ = some (.pointer (some ⟨L.g, 0, none⟩)) := (p0c 1).trans cp.2
  clear p0c p0f
  go_wp2_with fail
  refine Calls.mono HR.out ?_
  rintro e w2 ⟨c, rfl, hc1, hc2, hcys, l', hgl, hx2, k12, ho2, hnc⟩
  clear HR
  have zs12 := k12.size
  have nP : ¬ B.own l w.heap.size := fun x => by have := hownz _ (Or.inr x); omega
  have nB : ¬ B.own l (w.heap.size + 1) := fun x => by have := hownz _ (Or.inr x); omega
  have k02 : Kept (B.own l) w w2 := (k01.wide (fun _ x => x.elim)).trans k12
  have h2 : BookL g base ρ s w2 := h.kept k02 (fun x => hgo g (Or.inr x) rfl) (fun k x => (hown k (Or.inr x)).2)
  have hr2 : Rep L st w2 := hr1.kept k12 (fun k hk x => hb.apart k hk x)
  have ir2 : InsRaw w2 (w.heap.size + 1) (ll + 8) (lentIn ins ll) := Raw.kept ir1 k12 zl1 nB
  have cp1' : w2.cell? ⟨w.heap.size, 1, none⟩ = some (.pointer (some ⟨L.g, 0, none⟩)) := by rw [k12.cell (b := w.heap.size) (by omega) nP]; exact cp1
  have hB0 : ρ (w.heap.size + 1) = 0 := hlo0 _ (by omega)
  have HWh : Hid _ := whole_any g base (w.heap.size + 1) ll lc s.le.length a s.m s.vl (s.le.flatMap lentCell) ins w2 hll h.m0 hm (by
    rcases hinW w2 (B.own l) k02 (fun k x => Or.inl (hown k (Or.inr x)).1) with x | ⟨b, off, e, hb1, hb2, y⟩
    · exact Or.inl x
    · exact Or.inr ⟨b, off, e, by omega, by omega, hb2, y⟩) ir2 (by omega) (by omega) h.gb (by omega) h2.c1 (h2.fz 1 (by omega) (by omega)) h2.c5 (h2.fz 5 (by omega) (by omega)) h2.rl (fun x => by have := h2.bl _ x; omega) (by unfold maxLen; omega) (by omega)
  go_wp2_with fail
  refine Calls.mono HWh.out ?_
  rintro e w3 ⟨rfl, ir3, d1, g5, cap5, d5, o5, hat5, k23, hco, hfo⟩
  clear HWh
  obtain ⟨ρ1, s1, h3, t1, t2, t3, t4, t5, t6, t7⟩ := h2.lent hB0 (by omega) (by omega) (by omega) ir3 d1 d5 o5 (hat5.elim Or.inl (fun x => Or.inr x)) k23 hco hfo
  have nLg : ∀ k, L.own k → k ≠ g ∧ k < w.heap.size ∧ ρ k = 0 ∧ base ≤ k := fun k hk => ⟨hgo k (Or.inl hk), hownz k (Or.inl hk), (hown k (Or.inl hk)).2, (hown k (Or.inl hk)).1⟩
  have nl' : ∀ k, B.own l' k → (B.own l k ∨ w1.heap.size ≤ k) ∧ k < w2.heap.size ∧ base ≤ k ∧ k ≠ w.heap.size + 1 ∧ ρ k = 0 := fun k hk => by
    have hz := hB.lt hx2 hk
    rcases ho2 k hk with x | x
    · have := hown k (Or.inr x); have := hownz k (Or.inr x); exact ⟨Or.inl x, hz, by omega, by omega, by omega⟩
    · exact ⟨Or.inr x, hz, by omega, by omega, hlo0 k (by omega)⟩
  have zs23 := k23.size
  have vlz : ∀ k, s.vl.ownBlock = some k → ρ k = 5 := fun k hk => h2.bl k hk
  have hx3 : B.rep (cy + ll) l' (st.after ins ll) w3 := hB.kept hx2 k23 (fun k hk x => by
    obtain ⟨_, _, q1, q2, q3⟩ := nl' k hk
    rcases x with x | x | x
    · have := h.gb; omega
    · exact q2 x
    · have := vlz k x; omega)
  have hr3 : Rep L st w3 := hr2.kept k23 (fun k hk x => by
    obtain ⟨q1, q2, q3, q4⟩ := nLg k hk
    rcases x with x | x | x
    · exact q1 x
    · omega
    · have := vlz k x; omega)
  have hρc : ρ c = 0 := hlo0 c (by omega)
  have cys3 : CysAt w3 c ll (st.cyc ins) := Raw.kept hcys k23 hc2 (fun x => by
    rcases x with x | x | x
    · omega
    · omega
    · have := vlz c x; omega)
  have cp3 : w3.cell? ⟨w.heap.size, 1, none⟩ = some (.pointer (some ⟨L.g, 0, none⟩)) := by
    rw [k23.cell (b := w.heap.size) (by omega) (fun x => by
      rcases x with x | x | x
      · omega
      · omega
      · have := vlz _ x; have := hlo0 w.heap.size (Nat.le_refl _); omega)]
    exact cp1'
  have k03 : Kept (fun k => k = g ∨ ρ k ≠ 0 ∨ B.own l k) w w3 := ⟨k23.os.trans k02.os, k23.tape.trans k02.tape, k23.output.trans k02.output, by have := k02.size; omega, fun k hk hS => (k23.block k (by have := k02.size; omega) (fun x => by
    rcases x with x | x | x
    · exact hS (Or.inl x)
    · omega
    · exact hS (Or.inr (Or.inl (by have := vlz k x; omega))))).trans (k02.block k hk (fun x => hS (Or.inr (Or.inr x))))⟩
  have hin3 := hinW w3 _ k03 (fun k x => by
    rcases x with x | x | x
    · exact Or.inr x
    · exact Or.inl (h.lo k x).1
    · exact Or.inl (hown k (Or.inr x)).1)
  have z1c : ρ1 c = 0 := t7 c hc2 (by omega) hρc
  have z1L : ∀ k, L.own k → ρ1 k = 0 := fun k hk => by
    obtain ⟨q1, q2, q3, q4⟩ := nLg k hk
    exact t7 k (by omega) (by omega) q3
  have z1l : ∀ k, B.own l' k → ρ1 k = 0 := fun k hk => by
    obtain ⟨_, q0, q1, q2, q3⟩ := nl' k hk
    exact t7 k q0 q2 q3
  have hcL : ¬ L.own c := fun x => by have := (nLg c x).2.1; omega
  have hPL : ¬ L.own w.heap.size := fun x => by have := (nLg _ x).2.1; omega
  have HG3 : Hid (w3.cell? ⟨g, 0, none⟩ = w.cell? ⟨g, 0, none⟩ ∧ w3.frozen? ⟨g, 0, none⟩ = w.frozen? ⟨g, 0, none⟩) := ⟨(hco 0 (by omega) (by omega)).trans (k02.cell hg (fun x => hgo g (Or.inr x) rfl) 0), (hfo 0).trans (k02.frozen hg (fun x => hgo g (Or.inr x) rfl) 0)⟩
  have HQ : Hid _ := And.intro t1 (And.intro t2 (And.intro t3 (And.intro t4 (And.intro t5 t6))))
  have hcz3 : c < w3.heap.size := by omega
  have hPz3 : w.heap.size < w3.heap.size := by omega
  clear t1 t2 t3 t4 t5 t6 hx1 hr1 hr2 ir1 ir2 ir3 cp cp0 cp1 cp1' hcys d1 d5 o5 hat5 hco hfo h2 hx2 k12 k23 k0 k1 k01 k02 b1 hin hinW
  go_wp2
  go_loopw [10, 11] (fun t10 t11 wx => ∃ i : Nat, i ≤ ll ∧ t10 = .bool true ∧ t11 = .int .i64 i ∧ Rep L (st.after ins i) wx ∧ Kept L.own w3 wx) (fun _ t11 _ => ll - (intOf t11).toNat)
  case atStart => exact ⟨0, by omega, rfl, rfl, hr3, Kept.refl _ _⟩
  case round =>
    obtain ⟨i, hi, rfl, rfl, hrx, hkx⟩ := hrel
    have zx := hkx.size
    by_cases hil : i < ll
    · have hil' : (i : Int) < (ll : Int) := by omega
      rcases hin3 with x | ⟨b, off, rfl, hb1, hb2, hin⟩
      · omega
      have hbL : ¬ L.own b := fun x => by have := (nLg b x).2.2.2; omega
      obtain ⟨q0, q1, i0, i1, i2⟩ := hin i hil
      have HRs : Hid (∀ W, Rep L (st.after ins i) W → Calls Tryz.prog 34 #[.pointer (some ⟨L.g, 0, none⟩), .agg #[.bool (ins i).reset, .int .i64 (ins i).volts, .int .u8 (ins i).port]] W fun e w' => e = .returned (.agg #[.int .i64 (st.cyc ins i).kind, .int .i64 (st.cyc ins i).addr, .int .u8 (st.cyc ins i).data, .int .u8 (st.cyc ins i).out]) ∧ Rep L (st.after ins (i + 1)) w' ∧ Kept L.own W w') := fun W hW => Rstep_any hW (hinv i (by omega)) (ins i).reset (ins i).volts (ins i).port q0 q1
      have hcell := cys3.read i hil
      generalize st.cyc ins i = C at HRs hcell
      obtain ⟨ck, ca, cd, co⟩ := C
      generalize ins i = I at i0 i1 i2 HRs
      obtain ⟨rs, v, p⟩ := I
      have HSx : Hid (∀ W : World, Kept L.own w3 W → W.cell? ⟨w.heap.size, 1, none⟩ = some (.pointer (some ⟨L.g, 0, none⟩)) ∧ W.cell? ⟨b, off + i * 3, none⟩ = some (.bool rs) ∧ W.cell? ⟨b, off + i * 3 + 1, none⟩ = some (.int .i64 v) ∧ W.cell? ⟨b, off + i * 3 + 2, none⟩ = some (.int .u8 p)) := fun W hW =>
        ⟨by rw [hW.cell hPz3 hPL]; exact cp3, by rw [hW.cell (b := b) (by omega) hbL]; exact i0, by rw [hW.cell (b := b) (by omega) hbL]; exact i1, by rw [hW.cell (b := b) (by omega) hbL]; exact i2⟩
      have HCx : Hid (∀ W : World, Kept L.own w3 W → W.cell? ⟨c, i * 4, none⟩ = some (.int .i64 ck) ∧ W.cell? ⟨c, i * 4 + 1, none⟩ = some (.int .i64 ca) ∧ W.cell? ⟨c, i * 4 + 2, none⟩ = some (.int .u8 cd) ∧ W.cell? ⟨c, i * 4 + 3, none⟩ = some (.int .u8 co)) := fun W hW =>
        ⟨by rw [hW.cell hcz3 hcL]; exact hcell.1, by rw [hW.cell hcz3 hcL]; exact hcell.2.1, by rw [hW.cell hcz3 hcL]; exact hcell.2.2.1, by rw [hW.cell hcz3 hcL]; exact hcell.2.2.2⟩
      have HZ : Hid (∀ W w5 : World, Kept L.own W w5 → (∀ o, wr.heap.size < W.heap.size → w5.cell? ⟨wr.heap.size, o, none⟩ = W.cell? ⟨wr.heap.size, o, none⟩) ∧ (∀ o, wr.heap.size < W.heap.size → w5.frozen? ⟨wr.heap.size, o, none⟩ = W.frozen? ⟨wr.heap.size, o, none⟩)) := fun W w5 hk =>
        ⟨fun o ho => hk.cell ho (fun x => by have := (nLg _ x).2.1; omega) o, fun o ho => hk.frozen ho (fun x => by have := (nLg _ x).2.1; omega) o⟩
      clear i0 i1 i2 hcell hin
      go_wp2
      go_region_held3 (fun W => W.cell? ⟨w.heap.size, 1, none⟩ = some (.pointer (some ⟨L.g, 0, none⟩)) ∧ W.cell? ⟨b, off + i * 3, none⟩ = some (.bool rs) ∧ W.cell? ⟨b, off + i * 3 + 1, none⟩ = some (.int .i64 v) ∧ W.cell? ⟨b, off + i * 3 + 2, none⟩ = some (.int .u8 p)) (first | (refine HSx.out _ ?_; (repeat (with_reducible first | exact hkx | apply Kept.alloc | apply Kept.drewN | apply Kept.drew | refine Kept.setCell ?_ (Or.inr (by omega)) _ | refine Kept.trans ?_ k5)); done)) (first | (go_at_call 34; refine Calls.mono (HRs.out _ (by repeat (with_reducible first | exact hrx | apply Rep.alloc | apply Rep.drewN | apply Rep.drew))) ?_; rintro e' w5 ⟨rfl, hr5, k5⟩; have kz := HZ.out _ _ k5; obtain ⟨kzc, kzf⟩ := kz))
      · obtain ⟨X, hX⟩ : ∃ X, X = (w5.alloc (.cells #[.int .i64 ck, .int .i64 ca, .int .u8 cd, .int .u8 co] 54)) := ⟨_, rfl⟩
        have kX : Kept L.own w3 X := by rw [hX]; exact ((hkx.drew).trans k5).alloc _
        have rX : Rep L (st.after ins (i + 1)) X := by rw [hX]; exact hr5.alloc _
        have dz : w5.heap.size < X.heap.size := by rw [hX, World.size_alloc]; omega
        have dc : X.cell? ⟨w5.heap.size, 0, none⟩ = some (.int .i64 ck) ∧ X.cell? ⟨w5.heap.size, 1, none⟩ = some (.int .i64 ca) ∧ X.cell? ⟨w5.heap.size, 2, none⟩ = some (.int .u8 cd) ∧ X.cell? ⟨w5.heap.size, 3, none⟩ = some (.int .u8 co) := by
          rw [hX]
          exact ⟨by simp [go_sem], by simp [go_sem], by simp [go_sem], by simp [go_sem]⟩
        clear hr5 k5 kzc kzf HSx HRs HZ
        go_wp2
        rw [← hX]
        have HS2 : Hid (∀ W : World, Kept (fun _ => False) X W → W.cell? ⟨c, i * 4, none⟩ = some (.int .i64 ck) ∧ W.cell? ⟨c, i * 4 + 1, none⟩ = some (.int .i64 ca) ∧ W.cell? ⟨c, i * 4 + 2, none⟩ = some (.int .u8 cd) ∧ W.cell? ⟨c, i * 4 + 3, none⟩ = some (.int .u8 co) ∧ W.cell? ⟨w5.heap.size, 0, none⟩ = some (.int .i64 ck) ∧ W.cell? ⟨w5.heap.size, 1, none⟩ = some (.int .i64 ca) ∧ W.cell? ⟨w5.heap.size, 2, none⟩ = some (.int .u8 cd) ∧ W.cell? ⟨w5.heap.size, 3, none⟩ = some (.int .u8 co)) := fun W hW => by
          have q := HCx.out W (kX.trans (hW.wide (fun _ x => x.elim)))
          exact ⟨q.1, q.2.1, q.2.2.1, q.2.2.2, by rw [hW.cell dz (fun x => x)]; exact dc.1, by rw [hW.cell dz (fun x => x)]; exact dc.2.1, by rw [hW.cell dz (fun x => x)]; exact dc.2.2.1, by rw [hW.cell dz (fun x => x)]; exact dc.2.2.2⟩
        clear hX
        go_region_held3 (fun W => W.cell? ⟨c, i * 4, none⟩ = some (.int .i64 ck) ∧ W.cell? ⟨c, i * 4 + 1, none⟩ = some (.int .i64 ca) ∧ W.cell? ⟨c, i * 4 + 2, none⟩ = some (.int .u8 cd) ∧ W.cell? ⟨c, i * 4 + 3, none⟩ = some (.int .u8 co) ∧ W.cell? ⟨w5.heap.size, 0, none⟩ = some (.int .i64 ck) ∧ W.cell? ⟨w5.heap.size, 1, none⟩ = some (.int .i64 ca) ∧ W.cell? ⟨w5.heap.size, 2, none⟩ = some (.int .u8 cd) ∧ W.cell? ⟨w5.heap.size, 3, none⟩ = some (.int .u8 co)) (first | exact HS2.out _ (Kept.refl _ _).drew) (first | fail)
        all_goals
          go_wp2
          exact ⟨⟨i + 1, by omega, rfl, by go_num, rX.kept (S := fun _ => False) (Kept.refl _ X).drew (fun _ _ x => x), kX.drew⟩, by simp [intOf]; omega⟩
      · obtain ⟨X, hX⟩ : ∃ X, X = ((((w5.setCell ⟨wr.heap.size, 0, none⟩ (.int .i64 ck)).setCell ⟨wr.heap.size, 1, none⟩ (.int .i64 ca)).setCell ⟨wr.heap.size, 2, none⟩ (.int .u8 cd)).setCell ⟨wr.heap.size, 3, none⟩ (.int .u8 co)) := ⟨_, rfl⟩
        have z5 : wr.heap.size < w5.heap.size := by have h1 := k5.size; have h2 : (wr.alloc (.cells #[.int .i64 0, .int .i64 0, .int .u8 0, .int .u8 0] 54)).heap.size ≤ w5.heap.size := h1; rw [World.size_alloc] at h2; omega
        have kX : Kept L.own w3 X := by rw [hX]; exact ((((((hkx.alloc _).drew).trans k5).setCell (b := wr.heap.size) (Or.inr zx) _).setCell (b := wr.heap.size) (Or.inr zx) _).setCell (b := wr.heap.size) (Or.inr zx) _).setCell (b := wr.heap.size) (Or.inr zx) _
        have rX : Rep L (st.after ins (i + 1)) X := by
          rw [hX]
          exact hr5.kept (S := fun k => k = wr.heap.size) (((((Kept.refl (fun k => k = wr.heap.size) w5).setCell (b := wr.heap.size) (Or.inl rfl) _).setCell (b := wr.heap.size) (Or.inl rfl) _).setCell (b := wr.heap.size) (Or.inl rfl) _).setCell (b := wr.heap.size) (Or.inl rfl) _) (fun k hk x => by have := (nLg k hk).2.1; omega)
        have dz : wr.heap.size < X.heap.size := by rw [hX]; simpa using z5
        have hw : wr.heap.size < (wr.alloc (.cells #[.int .i64 0, .int .i64 0, .int .u8 0, .int .u8 0] 54)).drew.heap.size := by show _ < (wr.alloc _).heap.size; rw [World.size_alloc]; omega
        have c0 : w5.cell? ⟨wr.heap.size, 0, none⟩ = some (.int .i64 0) := by rw [kzc 0 hw]; simp [go_sem]
        have c1 : w5.cell? ⟨wr.heap.size, 1, none⟩ = some (.int .i64 0) := by rw [kzc 1 hw]; simp [go_sem]
        have c2 : w5.cell? ⟨wr.heap.size, 2, none⟩ = some (.int .u8 0) := by rw [kzc 2 hw]; simp [go_sem]
        have c3 : w5.cell? ⟨wr.heap.size, 3, none⟩ = some (.int .u8 0) := by rw [kzc 3 hw]; simp [go_sem]
        have dc : X.cell? ⟨wr.heap.size, 0, none⟩ = some (.int .i64 ck) ∧ X.cell? ⟨wr.heap.size, 1, none⟩ = some (.int .i64 ca) ∧ X.cell? ⟨wr.heap.size, 2, none⟩ = some (.int .u8 cd) ∧ X.cell? ⟨wr.heap.size, 3, none⟩ = some (.int .u8 co) := by
          rw [hX]
          exact ⟨by simp [go_sem, c0], by simp [go_sem, c1], by simp [go_sem, c2], by simp [go_sem, c3]⟩
        clear c0 c1 c2 c3 hw
        clear hr5 k5 kzc kzf HSx HRs HZ
        go_wp2
        rw [← hX]
        have HS2 : Hid (∀ W : World, Kept (fun _ => False) X W → W.cell? ⟨c, i * 4, none⟩ = some (.int .i64 ck) ∧ W.cell? ⟨c, i * 4 + 1, none⟩ = some (.int .i64 ca) ∧ W.cell? ⟨c, i * 4 + 2, none⟩ = some (.int .u8 cd) ∧ W.cell? ⟨c, i * 4 + 3, none⟩ = some (.int .u8 co) ∧ W.cell? ⟨wr.heap.size, 0, none⟩ = some (.int .i64 ck) ∧ W.cell? ⟨wr.heap.size, 1, none⟩ = some (.int .i64 ca) ∧ W.cell? ⟨wr.heap.size, 2, none⟩ = some (.int .u8 cd) ∧ W.cell? ⟨wr.heap.size, 3, none⟩ = some (.int .u8 co)) := fun W hW => by
          have q := HCx.out W (kX.trans (hW.wide (fun _ x => x.elim)))
          exact ⟨q.1, q.2.1, q.2.2.1, q.2.2.2, by rw [hW.cell dz (fun x => x)]; exact dc.1, by rw [hW.cell dz (fun x => x)]; exact dc.2.1, by rw [hW.cell dz (fun x => x)]; exact dc.2.2.1, by rw [hW.cell dz (fun x => x)]; exact dc.2.2.2⟩
        clear hX
        go_region_held3 (fun W => W.cell? ⟨c, i * 4, none⟩ = some (.int .i64 ck) ∧ W.cell? ⟨c, i * 4 + 1, none⟩ = some (.int .i64 ca) ∧ W.cell? ⟨c, i * 4 + 2, none⟩ = some (.int .u8 cd) ∧ W.cell? ⟨c, i * 4 + 3, none⟩ = some (.int .u8 co) ∧ W.cell? ⟨wr.heap.size, 0, none⟩ = some (.int .i64 ck) ∧ W.cell? ⟨wr.heap.size, 1, none⟩ = some (.int .i64 ca) ∧ W.cell? ⟨wr.heap.size, 2, none⟩ = some (.int .u8 cd) ∧ W.cell? ⟨wr.heap.size, 3, none⟩ = some (.int .u8 co)) (first | exact HS2.out _ (Kept.refl _ _).drew) (first | fail)
        all_goals
          go_wp2
          exact ⟨⟨i + 1, by omega, rfl, by go_num, rX.kept (S := fun _ => False) (Kept.refl _ X).drew (fun _ _ x => x), kX.drew⟩, by simp [intOf]; omega⟩
    · have hil' : ¬ (i : Int) < (ll : Int) := by omega
      obtain rfl : i = ll := by omega
      obtain ⟨t1, t2, t3, t4, t5, t6⟩ := HQ.out
      have h4 : BookL g base ρ1 s1 wr := h3.kept hkx (fun x => (nLg g x).1 rfl) (fun k x => z1L k x)
      have cys4 : CysAt wr c i (st.cyc ins) := Raw.kept cys3 hkx hcz3 hcL
      have HK : Hid _ := keep_any g base c i s1.ws.length s1.vw s1.vr (s1.ws.map waitCell) (s1.ws.map (·.v)) (st.cyc ins) wr hll cys4 (by omega) h.gb (by omega) h4.c2 (h4.fz 2 (by omega) (by omega)) h4.c3 (h4.fz 3 (by omega) (by omega)) h4.rw h4.rr (fun x => by have := h4.bw c x; omega) (fun x => by have := h4.br c x; omega) (fun k x y => by have := h4.bw k x; have := h4.br k y; omega) (by rw [t1]; unfold maxLen; omega) (by rw [t1]; omega)
      have HEND : Hid (∀ w', KeepPost g base c i s1.ws.length s1.vw s1.vr (s1.ws.map waitCell) (s1.ws.map (·.v)) (st.cyc ins) wr w' → RunsPost B (cy + i) g base ρ s L l w w') := fun w' hp => by
        obtain ⟨ρ', s', h5, u1, u2, u3, u4, u5, u6⟩ := h4.wait z1c (by omega) (by omega) hll cys4 hp
        have nfin : ∀ k, base ≤ k → ρ1 k = 0 → ¬ (k = g ∨ ρ1 k ≠ 0) := fun k q0 q1 x => by rcases x with x | x; have := h.gb; omega; exact x q1
        have hxr : B.rep (cy + i) l' (st.after ins i) wr := hB.kept hx3 hkx (fun k hk x => by
          have q2 := (nLg k x).2.1
          rcases (nl' k hk).1 with y | y
          · exact hb.apart k x y
          · omega)
        have ap : ∀ k, L.own k → ¬ B.own l' k := fun k hk x => by
          have q2 := (nLg k hk).2.1
          rcases (nl' k x).1 with y | y
          · exact hb.apart k hk y
          · omega
        refine ⟨ρ', s', l', st.after ins i, h5, hgl, ⟨hrx.kept u6 (fun k hk => nfin k (nLg k hk).2.2.2 (z1L k hk)), hB.kept hxr u6 (fun k hk => nfin k (nl' k hk).2.2.1 (z1l k hk)), hinv i (Nat.le_refl _), ap⟩, fun k hk => ?_, fun k hk => ?_, fun k hk hk0 => ?_, ?_, by rw [u1, t1], by rw [u2, t4], by rw [u3, t5]; omega, by rw [u4, t6]; omega, ?_, ?_⟩
        · rcases (nl' k hk).1 with y | y
          · exact Or.inl y
          · exact Or.inr (by omega)
        · rcases hk with hk | hk
          · exact u5 k (by have := (nLg k hk).2.1; omega) (fun x => hcL (x ▸ hk)) (z1L k hk)
          · exact u5 k (by have := (nl' k hk).2.1; omega) (fun x => hnc (x ▸ hk)) (z1l k hk)
        · exact u5 k (by omega) (by omega) (t7 k (by omega) (by omega) hk0)
        · refine ⟨u6.os.trans (hkx.os.trans k03.os), u6.tape.trans (hkx.tape.trans k03.tape), u6.output.trans (hkx.output.trans k03.output), by have := u6.size; omega, fun k hk hS => ?_⟩
          have q0 : ρ k = 0 := Classical.byContradiction fun x => hS (Or.inr (Or.inl x))
          have q1 : ρ1 k = 0 := t7 k (by omega) (by omega) q0
          have q2 : k ≠ g := fun x => hS (Or.inl x)
          exact (u6.block k (by omega) (fun x => by rcases x with x | x; exact q2 x; exact x q1)).trans ((hkx.block k (by omega) (fun x => hS (Or.inr (Or.inr (Or.inl x))))).trans (k03.block k hk (fun x => by
            rcases x with x | x | x
            · exact hS (Or.inl x)
            · exact hS (Or.inr (Or.inl x))
            · exact hS (Or.inr (Or.inr (Or.inr x))))))
        · obtain ⟨_, _, _, _, _, _, _, _, _, _, _, _, _, _, _, hco, hfo⟩ := hp
          exact (hco 0 (by omega) (by omega)).trans ((hkx.cell (b := g) (by omega) (fun x => (nLg g x).1 rfl) 0).trans HG3.out.1)
        · obtain ⟨_, _, _, _, _, _, _, _, _, _, _, _, _, _, _, hco, hfo⟩ := hp
          exact (hfo 0).trans ((hkx.frozen (b := g) (by omega) (fun x => (nLg g x).1 rfl) 0).trans HG3.out.2)
      clear t1 t2 t3 t4 t5 t6
      go_wp2_with fail
      refine Calls.mono HK.out ?_
      rintro e w' ⟨rfl, hp⟩
      go_wp2
      go_ret
      exact ⟨rfl, HEND.out _ hp⟩

end Go.Proofs.YtikdbpphbdbdnaaGreat
