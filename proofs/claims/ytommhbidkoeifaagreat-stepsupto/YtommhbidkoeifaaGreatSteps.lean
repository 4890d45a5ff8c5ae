/- Many cycles of both boards. -/
import Derived.Test.YtommhbidkoeifaaGreatPair
import Derived.Deep.RegionHeld3
namespace Go.Proofs.YtommhbidkoeifaaGreat
open Go.RowKit
set_option linter.unusedVariables false

/-- Which of n things a raw number speaks of. -/
def pickN (c n : Int) : Int := (if c < 0 then -(c + 1) else c) % n

theorem pickN_bounds (c n : Int) (hn : 0 < n) : 0 ≤ pickN c n ∧ pickN c n < n := by
  unfold pickN
  exact ⟨Int.emod_nonneg _ (by omega), Int.emod_lt_of_pos _ hn⟩

set_option maxHeartbeats 400000 in
theorem pick_any (c n : Int) (w : World) (h0 : -9223372036854775808 ≤ c) (h1 : c ≤ 9223372036854775807) (hn : 0 < n) (hn1 : n ≤ 9223372036854775807) :
    Calls Tryz.prog 13 #[.int .i64 c, .int .i64 n] w fun e w' => e = .returned (.int .i64 (pickN c n)) ∧ w' = w := by
  have hz : (n == 0) = false := beq_eq_false_iff_ne.2 (by omega)
  by_cases hc : c < 0
  · have HF : Hid (pickN c n = -((c + 1).tmod n)) := by
      unfold Hid pickN
      rw [if_pos hc, ← Int.neg_tmod, Int.tmod_eq_emod_of_nonneg (by omega)]
    go_enter Tryz.func13, Tryz.ntmps13
    go_wp2
    go_ret
    exact ⟨ret_int HF.out.symm, rfl⟩
  · have HF : Hid (pickN c n = c % n) := by simp [Hid, pickN, hc]
    go_enter Tryz.func13, Tryz.ntmps13
    go_wp2
    go_ret
    exact ⟨ret_int HF.out.symm, rfl⟩

/-- A list of inputs in memory, in blocks of T. -/
def IsIns (w : World) (T : Nat → Prop) (la : Option Addr) (ll : Nat) : Prop :=
  ll = 0 ∨ ∃ b off, la = some ⟨b, off, none⟩ ∧ T b ∧ b < w.heap.size ∧ ∀ i, i < ll → ∃ rs v p, 0 ≤ p ∧ p ≤ 255 ∧
    w.cell? ⟨b, off + i * 3, none⟩ = some (.bool rs) ∧ w.cell? ⟨b, off + i * 3 + 1, none⟩ = some (.int .i64 v) ∧ w.cell? ⟨b, off + i * 3 + 2, none⟩ = some (.int .u8 p)

theorem IsIns.kept {S T : Nat → Prop} {w w' : World} {la : Option Addr} {ll : Nat} (h : IsIns w T la ll) (hk : Kept S w w') (hS : ∀ k, T k → ¬ S k) : IsIns w' T la ll := by
  rcases h with h | ⟨b, off, ha, hT, hb, hc⟩
  · exact Or.inl h
  · refine Or.inr ⟨b, off, ha, hT, Nat.lt_of_lt_of_le hb hk.size, fun i hi => ?_⟩
    obtain ⟨rs, v, p, p0, p1, q0, q1, q2⟩ := hc i hi
    exact ⟨rs, v, p, p0, p1, by rw [hk.cell hb (hS b hT)]; exact q0, by rw [hk.cell hb (hS b hT)]; exact q1, by rw [hk.cell hb (hS b hT)]; exact q2⟩

/-- Where both boards have gone on by some cycles: what is said of them. -/
structure Gone (B : PB) (n : Nat) (L : Lay) (l : B.Lt) (w w' : World) (l' : B.Lt) (st' : St) : Prop where
  g : B.g l' = B.g l
  both : Both B n L l' st' w'
  kept : Kept (bothOwn B L l) w w'
  own : ∀ k, B.own l' k → B.own l k ∨ w.heap.size ≤ k

theorem Gone.start {B : PB} (hB : PBok B) {n : Nat} {L : Lay} {l : B.Lt} {st : St} {w w' : World} (h : Both B n L l st w) (hk : Kept (fun _ => False) w w') : Gone B n L l w w' l st :=
  ⟨rfl, h.kept hB hk (fun _ _ x => x), hk.wide (fun _ x => x.elim), fun k hk => Or.inl hk⟩

/-- One cycle more. -/
theorem Gone.more {B : PB} {n m : Nat} {L : Lay} {l l1 l2 : B.Lt} {st1 st2 : St} {w w1 w2 : World} (h : Gone B n L l w w1 l1 st1) (hg : B.g l2 = B.g l1) (hb : Both B m L l2 st2 w2) (hk : Kept (bothOwn B L l1) w1 w2) (ho : ∀ k, B.own l2 k → B.own l1 k ∨ w1.heap.size ≤ k) : Gone B m L l w w2 l2 st2 := by
  refine ⟨hg.trans h.g, hb, ⟨hk.os.trans h.kept.os, hk.tape.trans h.kept.tape, hk.output.trans h.kept.output, Nat.le_trans h.kept.size hk.size, fun k hlt hS => ?_⟩, fun k hk2 => ?_⟩
  · rw [hk.block k (Nat.lt_of_lt_of_le hlt h.kept.size) (fun x => ?_), h.kept.block k hlt hS]
    rcases x with x | x
    · exact hS (Or.inl x)
    · rcases h.own k x with y | y
      · exact hS (Or.inr y)
      · omega
  · rcases ho k hk2 with x | x
    · exact h.own k x
    · exact Or.inr (Nat.le_trans h.kept.size x)

theorem Gone.later {B : PB} (hB : PBok B) {n m : Nat} {L : Lay} {l l1 : B.Lt} {st1 : St} {w w1 : World} (h : Gone B n L l w w1 l1 st1) (hm : n ≤ m) : Gone B m L l w w1 l1 st1 := ⟨h.g, h.both.more hB hm, h.kept, h.own⟩

theorem Gone.fresh {B : PB} {n : Nat} {L : Lay} {l l1 : B.Lt} {st1 : St} {w w1 : World} (h : Gone B n L l w w1 l1 st1) {k : Nat} (h0 : k < w.heap.size) (h1 : ¬ bothOwn B L l k) : ¬ bothOwn B L l1 k := by
  intro x
  rcases x with x | x
  · exact h1 (Or.inl x)
  · rcases h.own k x with y | y
    · exact h1 (Or.inr y)
    · omega

set_option maxRecDepth 100000 in
set_option maxHeartbeats 1000000 in
theorem steps_step {B : PB} (hB : PBok B) {n : Nat} {L : Lay} {l : B.Lt} {st : St} {w : World} (h : Both B n L l st w) (T : Nat → Prop) (hT : ∀ k, T k → ¬ bothOwn B L l k) (a b p q : Int) (s t : ByteArray) (la : Option Addr) (ll lc : Nat) (hl : IsIns w T la ll) (hll : ll ≤ maxLen) (hcy : n + ll < 1152921504606846976) :
    Calls Tryz.prog 14 #[.agg #[.pointer (some ⟨B.g l, 0, none⟩), .pointer (some ⟨L.g, 0, none⟩)], .agg #[.int .i64 6, .int .i64 a, .int .i64 b, .string s, .string t, .int .i64 p, .int .i64 q, .slice la ll lc]] w fun e w' => e = .returned (.bool true) ∧ ∃ l' st', Gone B (n + ll) L l w w' l' st' := by
  have hfr : ∀ n, w.heap.size ≤ n → ¬ bothOwn B L l n := fun n hn e => by have := h.lt hB e; omega
  unfold maxLen at hll
  go_enter Tryz.func14, Tryz.ntmps14
  go_wp2
  obtain ⟨W0, hW0⟩ : ∃ W0 : World, W0 = (w.alloc (.cells #[.pointer (some ⟨B.g l, 0, none⟩), .pointer (some ⟨L.g, 0, none⟩)] 47)).alloc (.cells #[.int .i64 6, .int .i64 a, .int .i64 b, .string s, .string t, .int .i64 p, .int .i64 q, .slice la ll lc] 36) := ⟨_, rfl⟩
  have hs0 : w.heap.size + 1 + 1 = W0.heap.size := by rw [hW0]; simp
  have g0 : Gone B n L l w W0 l st := by rw [hW0]; exact Gone.start hB h (((Kept.refl _ w).alloc _).alloc _)
  have p0 : W0.cell? ⟨w.heap.size, 0, none⟩ = some (.pointer (some ⟨B.g l, 0, none⟩)) := by rw [hW0]; simp [go_sem]
  have p1 : W0.cell? ⟨w.heap.size, 1, none⟩ = some (.pointer (some ⟨L.g, 0, none⟩)) := by rw [hW0]; simp [go_sem]
  have p7 : W0.cell? ⟨w.heap.size + 1, 7, none⟩ = some (.slice la ll lc) := by rw [hW0]; simp [go_sem]
  rw [← hW0]
  clear hW0
  go_loopw [5] (fun i wx => ∃ (j : Nat) (l1 : B.Lt) (st1 : St), j ≤ ll ∧ i = .int .i64 j ∧ Gone B (n + j) L l w wx l1 st1 ∧ wx.cell? ⟨w.heap.size, 0, none⟩ = some (.pointer (some ⟨B.g l, 0, none⟩)) ∧ wx.cell? ⟨w.heap.size, 1, none⟩ = some (.pointer (some ⟨L.g, 0, none⟩)) ∧ wx.cell? ⟨w.heap.size + 1, 7, none⟩ = some (.slice la ll lc) ∧ w.heap.size + 1 + 1 ≤ wx.heap.size ∧ (∀ k, B.own l1 k → B.own l k ∨ w.heap.size + 1 + 1 ≤ k)) (fun i _ => ll - (intOf i).toNat)
  case atStart => exact ⟨0, l, st, by omega, rfl, g0, p0, p1, p7, by omega, fun k hk => Or.inl hk⟩
  case round =>
    obtain ⟨j, l1, st1, hj, rfl, gx, x0, x1, x7, xs, xo⟩ := hrel
    clear g0 p0 p1 p7 hs0
    by_cases hlt : j < ll
    · have hlt' : (j : Int) < (ll : Int) := by omega
      rcases hl with hl | ⟨bb, off, rfl, hTb, hbb, hins⟩
      · omega
      obtain ⟨rs, v, pp, v0, v1, i0, i1, i2⟩ := hins j hlt
      have hnb : ¬ bothOwn B L l bb := hT bb hTb
      have i0' : wr.cell? ⟨bb, off + j * 3, none⟩ = some (.bool rs) := by rw [gx.kept.cell hbb hnb]; exact i0
      have i1' : wr.cell? ⟨bb, off + j * 3 + 1, none⟩ = some (.int .i64 v) := by rw [gx.kept.cell hbb hnb]; exact i1
      have i2' : wr.cell? ⟨bb, off + j * 3 + 2, none⟩ = some (.int .u8 pp) := by rw [gx.kept.cell hbb hnb]; exact i2
      have n0 : ¬ bothOwn B L l1 w.heap.size := fun e => by
        rcases e with e | e
        · exact hfr _ (Nat.le_refl _) (Or.inl e)
        · rcases xo _ e with y | y
          · exact hfr _ (Nat.le_refl _) (Or.inr y)
          · omega
      have n1 : ¬ bothOwn B L l1 (w.heap.size + 1) := fun e => by
        rcases e with e | e
        · exact hfr _ (by omega) (Or.inl e)
        · rcases xo _ e with y | y
          · exact hfr _ (by omega) (Or.inr y)
          · omega
      have n2 : ¬ bothOwn B L l1 bb := gx.fresh hbb hnb
      have hbx : bb < wr.heap.size := Nat.lt_of_lt_of_le hbb gx.kept.size
      have hS : ∀ W : World, Kept (bothOwn B L l1) wr.drew W → W.cell? ⟨w.heap.size, 0, none⟩ = some (.pointer (some ⟨B.g l, 0, none⟩)) ∧ W.cell? ⟨w.heap.size, 1, none⟩ = some (.pointer (some ⟨L.g, 0, none⟩)) ∧ W.cell? ⟨w.heap.size + 1, 7, none⟩ = some (.slice (some ⟨bb, off, none⟩) ll lc) ∧ W.cell? ⟨bb, off + j * 3, none⟩ = some (.bool rs) ∧ W.cell? ⟨bb, off + j * 3 + 1, none⟩ = some (.int .i64 v) ∧ W.cell? ⟨bb, off + j * 3 + 2, none⟩ = some (.int .u8 pp) := fun W hW =>
        ⟨by rw [hW.cell (b := w.heap.size) (by show _ < wr.heap.size; omega) n0]; exact x0, by rw [hW.cell (b := w.heap.size) (by show _ < wr.heap.size; omega) n0]; exact x1, by rw [hW.cell (b := w.heap.size + 1) (by show _ < wr.heap.size; omega) n1]; exact x7, by rw [hW.cell (b := bb) hbx n2]; exact i0', by rw [hW.cell (b := bb) hbx n2]; exact i1', by rw [hW.cell (b := bb) hbx n2]; exact i2'⟩
      have hcall := stepped_any hB (n := n + j) (by omega) (gx.both.kept hB (S := fun _ => False) ((Kept.refl _ wr).drew) (fun _ _ x => x)) rs v pp v0 v1
      rw [gx.g] at hcall
      have HC : Hid _ := hcall
      clear hcall i0 i1 i2
      go_wp2
      go_region_held3 (fun W => W.cell? ⟨w.heap.size, 0, none⟩ = some (.pointer (some ⟨B.g l, 0, none⟩)) ∧ W.cell? ⟨w.heap.size, 1, none⟩ = some (.pointer (some ⟨L.g, 0, none⟩)) ∧ W.cell? ⟨w.heap.size + 1, 7, none⟩ = some (.slice (some ⟨bb, off, none⟩) ll lc) ∧ W.cell? ⟨bb, off + j * 3, none⟩ = some (.bool rs) ∧ W.cell? ⟨bb, off + j * 3 + 1, none⟩ = some (.int .i64 v) ∧ W.cell? ⟨bb, off + j * 3 + 2, none⟩ = some (.int .u8 pp)) (first | exact hS _ (by assumption) | exact hS _ (Kept.refl _ _)) (first | (go_at_call 28; refine Calls.mono HC.out ?_; rintro e w1 ⟨rfl, l2, hg2, hb2, hk2, ho2⟩))
      go_wp2
      have gy := gx.more (hg2.trans gx.g.symm) hb2 (((Kept.refl _ wr).drew).trans hk2) ho2
      obtain ⟨y0, y1, y7, _, _, _⟩ := hS _ hk2
      have zz : w.heap.size + 1 + 1 ≤ w1.heap.size := Nat.le_trans xs hk2.size
      exact ⟨⟨j + 1, l2, _, by omega, by go_num, gy, y0, y1, y7, zz, fun k hk => by
        rcases ho2 k hk with y | y
        · exact xo k y
        · exact Or.inr (Nat.le_trans xs y)⟩, by simp [intOf]; omega⟩
    · have hge : ¬ (j : Int) < (ll : Int) := by omega
      go_wp2
      go_ret
      exact ⟨rfl, l1, st1, gx.later hB (by omega)⟩

set_option maxRecDepth 100000 in
set_option maxHeartbeats 1000000 in
theorem steps_for_none {B : PB} (hB : PBok B) {n : Nat} (hcy : n + 600 < 1152921504606846976) {L : Lay} {l : B.Lt} {st : St} {w : World} (h : Both B n L l st w) (k a b p q : Int) (s t : ByteArray) (la : Option Addr) (ll lc : Nat) (hk6 : (k == 6) = false) (b0 : -9223372036854775808 ≤ b) (b1 : b ≤ 9223372036854775807) (hll : ll = 0) :
    Calls Tryz.prog 14 #[.agg #[.pointer (some ⟨B.g l, 0, none⟩), .pointer (some ⟨L.g, 0, none⟩)], .agg #[.int .i64 k, .int .i64 a, .int .i64 b, .string s, .string t, .int .i64 p, .int .i64 q, .slice la ll lc]] w fun e w' => e = .returned (.bool true) ∧ ∃ l' st', Gone B (n + 600) L l w w' l' st' := by
  have hfr : ∀ n, w.heap.size ≤ n → ¬ bothOwn B L l n := fun n hn e => by have := h.lt hB e; omega
  obtain ⟨pk0, pk1⟩ := pickN_bounds b 600 (by omega)
  subst hll
  go_enter Tryz.func14, Tryz.ntmps14
  go_wp2
  obtain ⟨W0, hW0⟩ : ∃ W0 : World, W0 = ((w.alloc (.cells #[.pointer (some ⟨B.g l, 0, none⟩), .pointer (some ⟨L.g, 0, none⟩)] 47)).alloc (.cells #[.int .i64 k, .int .i64 a, .int .i64 b, .string s, .string t, .int .i64 p, .int .i64 q, .slice la 0 lc] 36)).alloc (.cells #[.bool false, .int .i64 5000, .int .u8 0] 40) := ⟨_, rfl⟩
  obtain ⟨rs, v, pp, v0, v1, hin⟩ : ∃ (rs : Bool) (v pp : Int), 0 ≤ pp ∧ pp ≤ 255 ∧ (rs = false ∧ v = 5000 ∧ pp = 0) := ⟨false, 5000, 0, by omega, by omega, rfl, rfl, rfl⟩
  obtain ⟨hin1, hin2, hin3⟩ := hin
  have g0 : Gone B n L l w W0 l st := by rw [hW0]; exact Gone.start hB h ((((Kept.refl _ w).alloc _).alloc _).alloc _)
  have hs0 : w.heap.size + 1 + 1 + 1 = W0.heap.size := by rw [hW0]; simp
  have hI : W0.cell? ⟨w.heap.size, 0, none⟩ = some (.pointer (some ⟨B.g l, 0, none⟩)) ∧ W0.cell? ⟨w.heap.size, 1, none⟩ = some (.pointer (some ⟨L.g, 0, none⟩)) ∧ W0.cell? ⟨w.heap.size + 1, 2, none⟩ = some (.int .i64 b) ∧ W0.cell? ⟨w.heap.size + 1 + 1, 0, none⟩ = some (.bool rs) ∧ W0.cell? ⟨w.heap.size + 1 + 1, 1, none⟩ = some (.int .i64 v) ∧ W0.cell? ⟨w.heap.size + 1 + 1, 2, none⟩ = some (.int .u8 pp) := by rw [hW0, hin1, hin2, hin3]; simp [go_sem]
  rw [← hW0]
  clear hW0 hin1 hin2 hin3
  go_loopw [8] (fun i wx => ∃ (j : Nat) (l1 : B.Lt) (st1 : St), (j : Int) ≤ pickN b 600 ∧ i = .int .i64 j ∧ Gone B (n + j) L l w wx l1 st1 ∧ (wx.cell? ⟨w.heap.size, 0, none⟩ = some (.pointer (some ⟨B.g l, 0, none⟩)) ∧ wx.cell? ⟨w.heap.size, 1, none⟩ = some (.pointer (some ⟨L.g, 0, none⟩)) ∧ wx.cell? ⟨w.heap.size + 1, 2, none⟩ = some (.int .i64 b) ∧ wx.cell? ⟨w.heap.size + 1 + 1, 0, none⟩ = some (.bool rs) ∧ wx.cell? ⟨w.heap.size + 1 + 1, 1, none⟩ = some (.int .i64 v) ∧ wx.cell? ⟨w.heap.size + 1 + 1, 2, none⟩ = some (.int .u8 pp)) ∧ w.heap.size + 1 + 1 + 1 ≤ wx.heap.size ∧ (∀ k, B.own l1 k → B.own l k ∨ w.heap.size + 1 + 1 + 1 ≤ k)) (fun i _ => 600 - (intOf i).toNat)
  case atStart => exact ⟨0, l, st, pk0, rfl, g0, hI, by omega, fun k hk => Or.inl hk⟩
  case round =>
    obtain ⟨j, l1, st1, hj, rfl, gx, ⟨x0, x1, x2, x3, x4, x5⟩, xs, xo⟩ := hrel
    clear g0 hI hs0
    have nn : ∀ d, d < 3 → ¬ bothOwn B L l1 (w.heap.size + d) := fun d hd e => by
      rcases e with e | e
      · exact hfr _ (by omega) (Or.inl e)
      · rcases xo _ e with y | y
        · exact hfr _ (by omega) (Or.inr y)
        · omega
    have hS : ∀ W : World, Kept (bothOwn B L l1) wr W → W.cell? ⟨w.heap.size, 0, none⟩ = some (.pointer (some ⟨B.g l, 0, none⟩)) ∧ W.cell? ⟨w.heap.size, 1, none⟩ = some (.pointer (some ⟨L.g, 0, none⟩)) ∧ W.cell? ⟨w.heap.size + 1, 2, none⟩ = some (.int .i64 b) ∧ W.cell? ⟨w.heap.size + 1 + 1, 0, none⟩ = some (.bool rs) ∧ W.cell? ⟨w.heap.size + 1 + 1, 1, none⟩ = some (.int .i64 v) ∧ W.cell? ⟨w.heap.size + 1 + 1, 2, none⟩ = some (.int .u8 pp) := fun W hW =>
      ⟨by rw [hW.cell (b := w.heap.size) (by omega) (nn 0 (by omega))]; exact x0, by rw [hW.cell (b := w.heap.size) (by omega) (nn 0 (by omega))]; exact x1, by rw [hW.cell (b := w.heap.size + 1) (by omega) (nn 1 (by omega))]; exact x2, by rw [hW.cell (b := w.heap.size + 1 + 1) (by omega) (nn 2 (by omega))]; exact x3, by rw [hW.cell (b := w.heap.size + 1 + 1) (by omega) (nn 2 (by omega))]; exact x4, by rw [hW.cell (b := w.heap.size + 1 + 1) (by omega) (nn 2 (by omega))]; exact x5⟩
    by_cases hlt : (j : Int) < pickN b 600
    · have hcall := stepped_any hB (n := n + j) (by omega) gx.both rs v pp v0 v1
      rw [gx.g] at hcall
      have HC : Hid _ := hcall
      clear hcall
      go_wp2_with fail
      refine (pick_any b 600 _ b0 b1 (by omega) (by omega)).mono ?_
      rintro e w0 ⟨rfl, rfl⟩
      go_wp2_with fail
      refine Calls.mono HC.out ?_
      rintro e w1 ⟨rfl, l2, hg2, hb2, hk2, ho2⟩
      go_wp2
      have gy := gx.more (hg2.trans gx.g.symm) hb2 hk2 ho2
      have zz : w.heap.size + 1 + 1 + 1 ≤ w1.heap.size := Nat.le_trans xs hk2.size
      exact ⟨⟨j + 1, l2, _, by omega, by go_num, gy, hS _ hk2, zz, fun k hk => by
        rcases ho2 k hk with y | y
        · exact xo k y
        · exact Or.inr (Nat.le_trans xs y)⟩, by simp [intOf]; omega⟩
    · go_wp2_with fail
      refine (pick_any b 600 _ b0 b1 (by omega) (by omega)).mono ?_
      rintro e w0 ⟨rfl, rfl⟩
      go_wp2
      go_ret
      exact ⟨rfl, l1, st1, gx.later hB (by omega)⟩

set_option maxRecDepth 100000 in
set_option maxHeartbeats 1000000 in
theorem steps_for_some {B : PB} (hB : PBok B) {n : Nat} (hcy : n + 600 < 1152921504606846976) {L : Lay} {l : B.Lt} {st : St} {w : World} (h : Both B n L l st w) (k a b p q : Int) (s t : ByteArray) (la : Option Addr) (ll lc : Nat) (hk6 : (k == 6) = false) (b0 : -9223372036854775808 ≤ b) (b1 : b ≤ 9223372036854775807) (T : Nat → Prop) (hT : ∀ k, T k → ¬ bothOwn B L l k) (hl : IsIns w T la ll) (hll : 0 < ll) (hmax : ll ≤ maxLen) :
    Calls Tryz.prog 14 #[.agg #[.pointer (some ⟨B.g l, 0, none⟩), .pointer (some ⟨L.g, 0, none⟩)], .agg #[.int .i64 k, .int .i64 a, .int .i64 b, .string s, .string t, .int .i64 p, .int .i64 q, .slice la ll lc]] w fun e w' => e = .returned (.bool true) ∧ ∃ l' st', Gone B (n + 600) L l w w' l' st' := by
  have hfr : ∀ n, w.heap.size ≤ n → ¬ bothOwn B L l n := fun n hn e => by have := h.lt hB e; omega
  obtain ⟨pk0, pk1⟩ := pickN_bounds b 600 (by omega)
  unfold maxLen at hmax
  rcases hl with hl | ⟨bb, off, rfl, hTb, hbb, hins⟩
  · omega
  obtain ⟨rs0, vv0, pp0, w0, w1, i0, i1, i2⟩ := hins 0 hll
  rw [Nat.zero_mul, Nat.add_zero] at i0 i1 i2
  have hll' : (0 : Int) < (ll : Int) := by omega
  have hbb1 : bb < w.heap.size + 1 := by omega
  have hbb2 : bb < w.heap.size + 1 + 1 := by omega
  go_enter Tryz.func14, Tryz.ntmps14
  go_wp2
  obtain ⟨W0, hW0⟩ : ∃ W0 : World, W0 = ((w.alloc (.cells #[.pointer (some ⟨B.g l, 0, none⟩), .pointer (some ⟨L.g, 0, none⟩)] 47)).alloc (.cells #[.int .i64 k, .int .i64 a, .int .i64 b, .string s, .string t, .int .i64 p, .int .i64 q, .slice (some ⟨bb, off, none⟩) ll lc] 36)).alloc (.cells #[.bool rs0, .int .i64 vv0, .int .u8 pp0] 40) := ⟨_, rfl⟩
  obtain ⟨rs, v, pp, v0, v1, hin⟩ : ∃ (rs : Bool) (v pp : Int), 0 ≤ pp ∧ pp ≤ 255 ∧ (rs = rs0 ∧ v = vv0 ∧ pp = pp0) := ⟨rs0, vv0, pp0, by omega, by omega, rfl, rfl, rfl⟩
  obtain ⟨hin1, hin2, hin3⟩ := hin
  have g0 : Gone B n L l w W0 l st := by rw [hW0]; exact Gone.start hB h ((((Kept.refl _ w).alloc _).alloc _).alloc _)
  have hs0 : w.heap.size + 1 + 1 + 1 = W0.heap.size := by rw [hW0]; simp
  have hI : W0.cell? ⟨w.heap.size, 0, none⟩ = some (.pointer (some ⟨B.g l, 0, none⟩)) ∧ W0.cell? ⟨w.heap.size, 1, none⟩ = some (.pointer (some ⟨L.g, 0, none⟩)) ∧ W0.cell? ⟨w.heap.size + 1, 2, none⟩ = some (.int .i64 b) ∧ W0.cell? ⟨w.heap.size + 1 + 1, 0, none⟩ = some (.bool rs) ∧ W0.cell? ⟨w.heap.size + 1 + 1, 1, none⟩ = some (.int .i64 v) ∧ W0.cell? ⟨w.heap.size + 1 + 1, 2, none⟩ = some (.int .u8 pp) := by rw [hW0, hin1, hin2, hin3]; simp [go_sem]
  rw [← hW0]
  clear hW0 hin1 hin2 hin3
  go_loopw [8] (fun i wx => ∃ (j : Nat) (l1 : B.Lt) (st1 : St), (j : Int) ≤ pickN b 600 ∧ i = .int .i64 j ∧ Gone B (n + j) L l w wx l1 st1 ∧ (wx.cell? ⟨w.heap.size, 0, none⟩ = some (.pointer (some ⟨B.g l, 0, none⟩)) ∧ wx.cell? ⟨w.heap.size, 1, none⟩ = some (.pointer (some ⟨L.g, 0, none⟩)) ∧ wx.cell? ⟨w.heap.size + 1, 2, none⟩ = some (.int .i64 b) ∧ wx.cell? ⟨w.heap.size + 1 + 1, 0, none⟩ = some (.bool rs) ∧ wx.cell? ⟨w.heap.size + 1 + 1, 1, none⟩ = some (.int .i64 v) ∧ wx.cell? ⟨w.heap.size + 1 + 1, 2, none⟩ = some (.int .u8 pp)) ∧ w.heap.size + 1 + 1 + 1 ≤ wx.heap.size ∧ (∀ k, B.own l1 k → B.own l k ∨ w.heap.size + 1 + 1 + 1 ≤ k)) (fun i _ => 600 - (intOf i).toNat)
  case atStart => exact ⟨0, l, st, pk0, rfl, g0, hI, by omega, fun k hk => Or.inl hk⟩
  case round =>
    obtain ⟨j, l1, st1, hj, rfl, gx, ⟨x0, x1, x2, x3, x4, x5⟩, xs, xo⟩ := hrel
    clear g0 hI hs0
    have nn : ∀ d, d < 3 → ¬ bothOwn B L l1 (w.heap.size + d) := fun d hd e => by
      rcases e with e | e
      · exact hfr _ (by omega) (Or.inl e)
      · rcases xo _ e with y | y
        · exact hfr _ (by omega) (Or.inr y)
        · omega
    have hS : ∀ W : World, Kept (bothOwn B L l1) wr W → W.cell? ⟨w.heap.size, 0, none⟩ = some (.pointer (some ⟨B.g l, 0, none⟩)) ∧ W.cell? ⟨w.heap.size, 1, none⟩ = some (.pointer (some ⟨L.g, 0, none⟩)) ∧ W.cell? ⟨w.heap.size + 1, 2, none⟩ = some (.int .i64 b) ∧ W.cell? ⟨w.heap.size + 1 + 1, 0, none⟩ = some (.bool rs) ∧ W.cell? ⟨w.heap.size + 1 + 1, 1, none⟩ = some (.int .i64 v) ∧ W.cell? ⟨w.heap.size + 1 + 1, 2, none⟩ = some (.int .u8 pp) := fun W hW =>
      ⟨by rw [hW.cell (b := w.heap.size) (by omega) (nn 0 (by omega))]; exact x0, by rw [hW.cell (b := w.heap.size) (by omega) (nn 0 (by omega))]; exact x1, by rw [hW.cell (b := w.heap.size + 1) (by omega) (nn 1 (by omega))]; exact x2, by rw [hW.cell (b := w.heap.size + 1 + 1) (by omega) (nn 2 (by omega))]; exact x3, by rw [hW.cell (b := w.heap.size + 1 + 1) (by omega) (nn 2 (by omega))]; exact x4, by rw [hW.cell (b := w.heap.size + 1 + 1) (by omega) (nn 2 (by omega))]; exact x5⟩
    by_cases hlt : (j : Int) < pickN b 600
    · have hcall := stepped_any hB (n := n + j) (by omega) gx.both rs v pp v0 v1
      rw [gx.g] at hcall
      have HC : Hid _ := hcall
      clear hcall
      go_wp2_with fail
      refine (pick_any b 600 _ b0 b1 (by omega) (by omega)).mono ?_
      rintro e w0 ⟨rfl, rfl⟩
      go_wp2_with fail
      refine Calls.mono HC.out ?_
      rintro e w1 ⟨rfl, l2, hg2, hb2, hk2, ho2⟩
      go_wp2
      have gy := gx.more (hg2.trans gx.g.symm) hb2 hk2 ho2
      have zz : w.heap.size + 1 + 1 + 1 ≤ w1.heap.size := Nat.le_trans xs hk2.size
      exact ⟨⟨j + 1, l2, _, by omega, by go_num, gy, hS _ hk2, zz, fun k hk => by
        rcases ho2 k hk with y | y
        · exact xo k y
        · exact Or.inr (Nat.le_trans xs y)⟩, by simp [intOf]; omega⟩
    · go_wp2_with fail
      refine (pick_any b 600 _ b0 b1 (by omega) (by omega)).mono ?_
      rintro e w0 ⟨rfl, rfl⟩
      go_wp2
      go_ret
      exact ⟨rfl, l1, st1, gx.later hB (by omega)⟩

end Go.Proofs.YtommhbidkoeifaaGreat
