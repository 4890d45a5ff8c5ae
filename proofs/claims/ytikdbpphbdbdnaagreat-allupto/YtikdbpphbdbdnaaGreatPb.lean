/- Of several texts, one behind the other. -/
import Derived.Test.YtikdbpphbdbdnaaGreatRd
import Derived.Test.YtikdbpphbdbdnaaGreatPairP
import Derived.Deep.RegionHeld3
import Derived.ChangeKeysEq
import Derived.Deep.AppendLies
/- A board of the program, whatever it is made of, beside the document's: what is asked of it, and one cycle of both. -/
namespace Go.Proofs.YtikdbpphbdbdnaaGreat
open Go.RowKit
set_option linter.unusedVariables false

/-- Both boards stand alike, and share no block. -/
structure Both (B : PB) (n : Nat) (L : Lay) (l : B.Lt) (st : St) (w : World) : Prop where
  r : Rep L st w
  x : B.rep n l st w
  inv : Inv st
  apart : ∀ k, L.own k → ¬ B.own l k

/-- The blocks of both. -/
def bothOwn (B : PB) (L : Lay) (l : B.Lt) (k : Nat) : Prop := L.own k ∨ B.own l k

theorem Both.kept {B : PB} (hB : PBok B) {n : Nat} {S : Nat → Prop} {L : Lay} {l : B.Lt} {st : St} {w w' : World} (h : Both B n L l st w) (hk : Kept S w w') (hS : ∀ k, bothOwn B L l k → ¬ S k) : Both B n L l st w' :=
  ⟨h.r.kept hk (fun k hk => hS k (Or.inl hk)), hB.kept h.x hk (fun k hk => hS k (Or.inr hk)), h.inv, h.apart⟩

theorem Both.more {B : PB} (hB : PBok B) {n m : Nat} {L : Lay} {l : B.Lt} {st : St} {w : World} (h : Both B n L l st w) (hm : n ≤ m) : Both B m L l st w := ⟨h.r, hB.more h.x hm, h.inv, h.apart⟩

theorem Both.lt {B : PB} (hB : PBok B) {n : Nat} {L : Lay} {l : B.Lt} {st : St} {w : World} (h : Both B n L l st w) {k : Nat} (hk : bothOwn B L l k) : k < w.heap.size := by
  rcases hk with hk | hk
  · obtain ⟨h1, h2, h3⟩ := h.r.lt
    rcases hk with rfl | rfl | rfl
    · exact h1
    · exact h2
    · exact h3
  · exact hB.lt h.x hk

set_option maxRecDepth 100000 in
set_option maxHeartbeats 1000000 in
theorem stepped_any {B : PB} (hB : PBok B) {n : Nat} (hn : n < 1152921504606846976) {L : Lay} {l : B.Lt} {st : St} {w : World} (h : Both B n L l st w) (rs : Bool) (v p : Int) (hp0 : 0 ≤ p) (hp1 : p ≤ 255) :
    Calls Tryz.prog 30 #[.agg #[.pointer (some ⟨B.g l, 0, none⟩), .pointer (some ⟨L.g, 0, none⟩)], .agg #[.bool rs, .int .i64 v, .int .u8 p]] w fun e w' => e = .returned (.bool true) ∧
      ∃ l' : B.Lt, B.g l' = B.g l ∧ Both B (n + 1) L l' (st.step ⟨rs, v, p⟩).1 w' ∧ Kept (bothOwn B L l) w w' ∧ ∀ k, B.own l' k → B.own l k ∨ w.heap.size ≤ k := by
  have hfB : ∀ n, w.heap.size ≤ n → ¬ B.own l n := fun n hn e => by have := hB.lt h.x e; omega
  have hfL := h.r.fresh
  have hinv := h.inv.step ⟨rs, v, p⟩ ⟨hp0, hp1⟩
  go_enter Tryz.func30, Tryz.ntmps30
  go_wp2_with fail
  refine (hB.step n l st _ rs v p (hB.kept (S := fun _ => False) h.x (((Kept.refl _ w).alloc _).alloc _) (fun _ _ x => x)) hn h.inv hp0 hp1).mono ?_
  rintro e w1 ⟨rfl, l', hg, hx1, k1, ho⟩
  obtain ⟨hc, hf⟩ := kcell k1 (b := w.heap.size) (by simp <;> omega) (hfB _ (Nat.le_refl _))
  obtain ⟨hc2, hf2⟩ := kcell k1 (b := w.heap.size + 1) (by simp <;> omega) (hfB _ (by omega))
  have hz : w.heap.size + 1 < w1.heap.size := by have := k1.size; simp at this; omega
  have hr1 : Rep L st w1 := h.r.kept (((Kept.refl (B.own l) w).alloc _).alloc _ |>.trans k1) h.apart
  have hz0 : w.heap.size < w1.heap.size := by omega
  have hcallR := Rstep_any (hr1.alloc (.cells #[.int .i64 (st.step ⟨rs, v, p⟩).2.kind, .int .i64 (st.step ⟨rs, v, p⟩).2.addr, .int .u8 (st.step ⟨rs, v, p⟩).2.data, .int .u8 (st.step ⟨rs, v, p⟩).2.out] 54)) h.inv rs v p hp0 hp1
  generalize hst : st.step ⟨rs, v, p⟩ = A at hx1 hcallR hinv ⊢
  have HS : Hid _ := hst
  have HC : Hid _ := hcallR
  clear hst hcallR
  go_wp2_with fail
  refine Calls.mono HC.out ?_
  rintro e w2 ⟨rfl, hr2, k2⟩
  have hfL1 := hr1.fresh
  obtain ⟨hc3, hf3⟩ := kcell k2 (b := w1.heap.size) (by simp) (hfL1 _ (Nat.le_refl _))
  have hz2 : w1.heap.size < w2.heap.size := by have := k2.size; simp at this; omega
  go_wp2
  go_ret
  refine ⟨rfl, l', hg, ?_⟩
  rw [HS.out]
  have kA : Kept (bothOwn B L l) w w1 := (((Kept.refl _ w).alloc _).alloc _).trans (k1.wide (fun k hk => Or.inr hk))
  have kB : Kept (bothOwn B L l) w1 w2 := ((Kept.refl _ w1).alloc _).trans (k2.wide (fun k hk => Or.inl hk))
  have hown : ∀ k, B.own l' k → B.own l k ∨ w.heap.size ≤ k := fun k hk => by
    rcases ho k hk with h1 | h1
    · exact Or.inl h1
    · exact Or.inr (by simp at h1; omega)
  have hap : ∀ k, L.own k → ¬ B.own l' k := fun k hL hk => by
    rcases hown k hk with h1 | h1
    · exact h.apart k hL h1
    · exact hfL k h1 hL
  refine ⟨⟨hr2.alloc _, ?_, hinv, hap⟩, (kA.trans kB).alloc _, hown⟩
  refine hB.kept (S := L.own) hx1 (((((Kept.refl _ w1).alloc _).trans k2)).alloc _) (fun k hk hL => hap k hL hk)

end Go.Proofs.YtikdbpphbdbdnaaGreat

/- Many cycles of both boards. -/
namespace Go.Proofs.YtikdbpphbdbdnaaGreat
open Go.RowKit
set_option linter.unusedVariables false

/-- Which of n things a raw number speaks of. -/
def pickN (c n : Int) : Int := (if c < 0 then -(c + 1) else c) % n

theorem pickN_bounds (c n : Int) (hn : 0 < n) : 0 ≤ pickN c n ∧ pickN c n < n := by
  unfold pickN
  exact ⟨Int.emod_nonneg _ (by omega), Int.emod_lt_of_pos _ hn⟩

set_option maxHeartbeats 400000 in
theorem pick_any (c n : Int) (w : World) (h0 : -9223372036854775808 ≤ c) (h1 : c ≤ 9223372036854775807) (hn : 0 < n) (hn1 : n ≤ 9223372036854775807) :
    Calls Tryz.prog 15 #[.int .i64 c, .int .i64 n] w fun e w' => e = .returned (.int .i64 (pickN c n)) ∧ w' = w := by
  have hz : (n == 0) = false := beq_eq_false_iff_ne.2 (by omega)
  by_cases hc : c < 0
  · have HF : Hid (pickN c n = -((c + 1).tmod n)) := by
      unfold Hid pickN
      rw [if_pos hc, ← Int.neg_tmod, Int.tmod_eq_emod_of_nonneg (by omega)]
    go_enter Tryz.func15, Tryz.ntmps15
    go_wp2
    go_ret
    exact ⟨ret_int HF.out.symm, rfl⟩
  · have HF : Hid (pickN c n = c % n) := by simp [Hid, pickN, hc]
    go_enter Tryz.func15, Tryz.ntmps15
    go_wp2
    go_ret
    exact ⟨ret_int HF.out.symm, rfl⟩

/-- A list of inputs in memory, in blocks of T. -/
def IsIns (w : World) (T : Nat → Prop) (la : Option Addr) (ll : Nat) : Prop :=
  ll = 0 ∨ ∃ b off, la = some ⟨b, off, none⟩ ∧ T b ∧ b < w.heap.size ∧ ∀ i, i < ll → ∃ rs v p, 0 ≤ p ∧ p ≤ 255 ∧
    w.cell? ⟨b, off + i * 3, none⟩ = some (.bool rs) ∧ w.cell? ⟨b, off + i * 3 + 1, none⟩ = some (.int .i64 v) ∧ w.cell? ⟨b, off + i * 3 + 2, none⟩ = some (.int .u8 p)

theorem IsIns.kept {S T : Nat → Prop} {w w' : World} {la : Option Addr} {ll : Nat} (h : IsIns w T la ll) (hk : Kept S w w') (hS : ∀ k, T k → ¬ S k) : IsIns w' T la ll := by
  rcases h with h | ⟨b, off, ha, hT, hb, hc⟩
  · exact Or.inl h
  · refine Or.inr ⟨b, off, ha, hT, Nat.lt_of_lt_of_le hb hk.size, fun i hi => ?_⟩
    obtain ⟨rs, v, p, p0, p1, q0, q1, q2⟩ := hc i hi
    exact ⟨rs, v, p, p0, p1, by rw [hk.cell hb (hS b hT)]; exact q0, by rw [hk.cell hb (hS b hT)]; exact q1, by rw [hk.cell hb (hS b hT)]; exact q2⟩

/-- Where both boards have gone on by some cycles: what is said of them. -/
structure Gone (B : PB) (n : Nat) (L : Lay) (l : B.Lt) (w w' : World) (l' : B.Lt) (st' : St) : Prop where
  g : B.g l' = B.g l
  both : Both B n L l' st' w'
  kept : Kept (bothOwn B L l) w w'
  own : ∀ k, B.own l' k → B.own l k ∨ w.heap.size ≤ k

theorem Gone.start {B : PB} (hB : PBok B) {n : Nat} {L : Lay} {l : B.Lt} {st : St} {w w' : World} (h : Both B n L l st w) (hk : Kept (fun _ => False) w w') : Gone B n L l w w' l st :=
  ⟨rfl, h.kept hB hk (fun _ _ x => x), hk.wide (fun _ x => x.elim), fun k hk => Or.inl hk⟩

/-- One cycle more. -/
theorem Gone.more {B : PB} {n m : Nat} {L : Lay} {l l1 l2 : B.Lt} {st1 st2 : St} {w w1 w2 : World} (h : Gone B n L l w w1 l1 st1) (hg : B.g l2 = B.g l1) (hb : Both B m L l2 st2 w2) (hk : Kept (bothOwn B L l1) w1 w2) (ho : ∀ k, B.own l2 k → B.own l1 k ∨ w1.heap.size ≤ k) : Gone B m L l w w2 l2 st2 := by
  refine ⟨hg.trans h.g, hb, ⟨hk.os.trans h.kept.os, hk.tape.trans h.kept.tape, hk.output.trans h.kept.output, Nat.le_trans h.kept.size hk.size, fun k hlt hS => ?_⟩, fun k hk2 => ?_⟩
  · rw [hk.block k (Nat.lt_of_lt_of_le hlt h.kept.size) (fun x => ?_), h.kept.block k hlt hS]
    rcases x with x | x
    · exact hS (Or.inl x)
    · rcases h.own k x with y | y
      · exact hS (Or.inr y)
      · omega
  · rcases ho k hk2 with x | x
    · exact h.own k x
    · exact Or.inr (Nat.le_trans h.kept.size x)

theorem Gone.later {B : PB} (hB : PBok B) {n m : Nat} {L : Lay} {l l1 : B.Lt} {st1 : St} {w w1 : World} (h : Gone B n L l w w1 l1 st1) (hm : n ≤ m) : Gone B m L l w w1 l1 st1 := ⟨h.g, h.both.more hB hm, h.kept, h.own⟩

theorem Gone.fresh {B : PB} {n : Nat} {L : Lay} {l l1 : B.Lt} {st1 : St} {w w1 : World} (h : Gone B n L l w w1 l1 st1) {k : Nat} (h0 : k < w.heap.size) (h1 : ¬ bothOwn B L l k) : ¬ bothOwn B L l1 k := by
  intro x
  rcases x with x | x
  · exact h1 (Or.inl x)
  · rcases h.own k x with y | y
    · exact h1 (Or.inr y)
    · omega

set_option maxRecDepth 100000 in
set_option maxHeartbeats 1000000 in
theorem steps_step {B : PB} (hB : PBok B) {n : Nat} {L : Lay} {l : B.Lt} {st : St} {w : World} (h : Both B n L l st w) (T : Nat → Prop) (hT : ∀ k, T k → ¬ bothOwn B L l k) (a b p q : Int) (s t : ByteArray) (la : Option Addr) (ll lc : Nat) (hl : IsIns w T la ll) (hll : ll ≤ maxLen) (hcy : n + ll < 1152921504606846976) :
    Calls Tryz.prog 16 #[.agg #[.pointer (some ⟨B.g l, 0, none⟩), .pointer (some ⟨L.g, 0, none⟩)], .agg #[.int .i64 6, .int .i64 a, .int .i64 b, .string s, .string t, .int .i64 p, .int .i64 q, .slice la ll lc]] w fun e w' => e = .returned (.bool true) ∧ ∃ l' st', Gone B (n + ll) L l w w' l' st' := by
  have hfr : ∀ n, w.heap.size ≤ n → ¬ bothOwn B L l n := fun n hn e => by have := h.lt hB e; omega
  unfold maxLen at hll
  go_enter Tryz.func16, Tryz.ntmps16
  go_wp2
  obtain ⟨W0, hW0⟩ : ∃ W0 : World, W0 = (w.alloc (.cells #[.pointer (some ⟨B.g l, 0, none⟩), .pointer (some ⟨L.g, 0, none⟩)] 47)).alloc (.cells #[.int .i64 6, .int .i64 a, .int .i64 b, .string s, .string t, .int .i64 p, .int .i64 q, .slice la ll lc] 36) := ⟨_, rfl⟩
  have hs0 : w.heap.size + 1 + 1 = W0.heap.size := by rw [hW0]; simp
  have g0 : Gone B n L l w W0 l st := by rw [hW0]; exact Gone.start hB h (((Kept.refl _ w).alloc _).alloc _)
  have p0 : W0.cell? ⟨w.heap.size, 0, none⟩ = some (.pointer (some ⟨B.g l, 0, none⟩)) := by rw [hW0]; simp [go_sem]
  have p1 : W0.cell? ⟨w.heap.size, 1, none⟩ = some (.pointer (some ⟨L.g, 0, none⟩)) := by rw [hW0]; simp [go_sem]
  have p7 : W0.cell? ⟨w.heap.size + 1, 7, none⟩ = some (.slice la ll lc) := by rw [hW0]; simp [go_sem]
  rw [← hW0]
  clear hW0
  go_loopw [5] (fun i wx => ∃ (j : Nat) (l1 : B.Lt) (st1 : St), j ≤ ll ∧ i = .int .i64 j ∧ Gone B (n + j) L l w wx l1 st1 ∧ wx.cell? ⟨w.heap.size, 0, none⟩ = some (.pointer (some ⟨B.g l, 0, none⟩)) ∧ wx.cell? ⟨w.heap.size, 1, none⟩ = some (.pointer (some ⟨L.g, 0, none⟩)) ∧ wx.cell? ⟨w.heap.size + 1, 7, none⟩ = some (.slice la ll lc) ∧ w.heap.size + 1 + 1 ≤ wx.heap.size ∧ (∀ k, B.own l1 k → B.own l k ∨ w.heap.size + 1 + 1 ≤ k)) (fun i _ => ll - (intOf i).toNat)
  case atStart => exact ⟨0, l, st, by omega, rfl, g0, p0, p1, p7, by omega, fun k hk => Or.inl hk⟩
  case round =>
    obtain ⟨j, l1, st1, hj, rfl, gx, x0, x1, x7, xs, xo⟩ := hrel
    clear g0 p0 p1 p7 hs0
    by_cases hlt : j < ll
    · have hlt' : (j : Int) < (ll : Int) := by omega
      rcases hl with hl | ⟨bb, off, rfl, hTb, hbb, hins⟩
      · omega
      obtain ⟨rs, v, pp, v0, v1, i0, i1, i2⟩ := hins j hlt
      have hnb : ¬ bothOwn B L l bb := hT bb hTb
      have i0' : wr.cell? ⟨bb, off + j * 3, none⟩ = some (.bool rs) := by rw [gx.kept.cell hbb hnb]; exact i0
      have i1' : wr.cell? ⟨bb, off + j * 3 + 1, none⟩ = some (.int .i64 v) := by rw [gx.kept.cell hbb hnb]; exact i1
      have i2' : wr.cell? ⟨bb, off + j * 3 + 2, none⟩ = some (.int .u8 pp) := by rw [gx.kept.cell hbb hnb]; exact i2
      have n0 : ¬ bothOwn B L l1 w.heap.size := fun e => by
        rcases e with e | e
        · exact hfr _ (Nat.le_refl _) (Or.inl e)
        · rcases xo _ e with y | y
          · exact hfr _ (Nat.le_refl _) (Or.inr y)
          · omega
      have n1 : ¬ bothOwn B L l1 (w.heap.size + 1) := fun e => by
        rcases e with e | e
        · exact hfr _ (by omega) (Or.inl e)
        · rcases xo _ e with y | y
          · exact hfr _ (by omega) (Or.inr y)
          · omega
      have n2 : ¬ bothOwn B L l1 bb := gx.fresh hbb hnb
      have hbx : bb < wr.heap.size := Nat.lt_of_lt_of_le hbb gx.kept.size
      have hS : ∀ W : World, Kept (bothOwn B L l1) wr.drew W → W.cell? ⟨w.heap.size, 0, none⟩ = some (.pointer (some ⟨B.g l, 0, none⟩)) ∧ W.cell? ⟨w.heap.size, 1, none⟩ = some (.pointer (some ⟨L.g, 0, none⟩)) ∧ W.cell? ⟨w.heap.size + 1, 7, none⟩ = some (.slice (some ⟨bb, off, none⟩) ll lc) ∧ W.cell? ⟨bb, off + j * 3, none⟩ = some (.bool rs) ∧ W.cell? ⟨bb, off + j * 3 + 1, none⟩ = some (.int .i64 v) ∧ W.cell? ⟨bb, off + j * 3 + 2, none⟩ = some (.int .u8 pp) := fun W hW =>
        ⟨by rw [hW.cell (b := w.heap.size) (by show _ < wr.heap.size; omega) n0]; exact x0, by rw [hW.cell (b := w.heap.size) (by show _ < wr.heap.size; omega) n0]; exact x1, by rw [hW.cell (b := w.heap.size + 1) (by show _ < wr.heap.size; omega) n1]; exact x7, by rw [hW.cell (b := bb) hbx n2]; exact i0', by rw [hW.cell (b := bb) hbx n2]; exact i1', by rw [hW.cell (b := bb) hbx n2]; exact i2'⟩
      have hcall := stepped_any hB (n := n + j) (by omega) (gx.both.kept hB (S := fun _ => False) ((Kept.refl _ wr).drew) (fun _ _ x => x)) rs v pp v0 v1
      rw [gx.g] at hcall
      have HC : Hid _ := hcall
      clear hcall i0 i1 i2
      go_wp2
      go_region_held3 (fun W => W.cell? ⟨w.heap.size, 0, none⟩ = some (.pointer (some ⟨B.g l, 0, none⟩)) ∧ W.cell? ⟨w.heap.size, 1, none⟩ = some (.pointer (some ⟨L.g, 0, none⟩)) ∧ W.cell? ⟨w.heap.size + 1, 7, none⟩ = some (.slice (some ⟨bb, off, none⟩) ll lc) ∧ W.cell? ⟨bb, off + j * 3, none⟩ = some (.bool rs) ∧ W.cell? ⟨bb, off + j * 3 + 1, none⟩ = some (.int .i64 v) ∧ W.cell? ⟨bb, off + j * 3 + 2, none⟩ = some (.int .u8 pp)) (first | exact hS _ (by assumption) | exact hS _ (Kept.refl _ _)) (first | (go_at_call 30; refine Calls.mono HC.out ?_; rintro e w1 ⟨rfl, l2, hg2, hb2, hk2, ho2⟩))
      go_wp2
      have gy := gx.more (hg2.trans gx.g.symm) hb2 (((Kept.refl _ wr).drew).trans hk2) ho2
      obtain ⟨y0, y1, y7, _, _, _⟩ := hS _ hk2
      have zz : w.heap.size + 1 + 1 ≤ w1.heap.size := Nat.le_trans xs hk2.size
      exact ⟨⟨j + 1, l2, _, by omega, by go_num, gy, y0, y1, y7, zz, fun k hk => by
        rcases ho2 k hk with y | y
        · exact xo k y
        · exact Or.inr (Nat.le_trans xs y)⟩, by simp [intOf]; omega⟩
    · have hge : ¬ (j : Int) < (ll : Int) := by omega
      go_wp2
      go_ret
      exact ⟨rfl, l1, st1, gx.later hB (by omega)⟩

set_option maxRecDepth 100000 in
set_option maxHeartbeats 1000000 in
theorem steps_for_none {B : PB} (hB : PBok B) {n : Nat} (hcy : n + 600 < 1152921504606846976) {L : Lay} {l : B.Lt} {st : St} {w : World} (h : Both B n L l st w) (k a b p q : Int) (s t : ByteArray) (la : Option Addr) (ll lc : Nat) (hk6 : (k == 6) = false) (b0 : -9223372036854775808 ≤ b) (b1 : b ≤ 9223372036854775807) (hll : ll = 0) :
    Calls Tryz.prog 16 #[.agg #[.pointer (some ⟨B.g l, 0, none⟩), .pointer (some ⟨L.g, 0, none⟩)], .agg #[.int .i64 k, .int .i64 a, .int .i64 b, .string s, .string t, .int .i64 p, .int .i64 q, .slice la ll lc]] w fun e w' => e = .returned (.bool true) ∧ ∃ l' st', Gone B (n + 600) L l w w' l' st' := by
  have hfr : ∀ n, w.heap.size ≤ n → ¬ bothOwn B L l n := fun n hn e => by have := h.lt hB e; omega
  obtain ⟨pk0, pk1⟩ := pickN_bounds b 600 (by omega)
  subst hll
  go_enter Tryz.func16, Tryz.ntmps16
  go_wp2
  obtain ⟨W0, hW0⟩ : ∃ W0 : World, W0 = ((w.alloc (.cells #[.pointer (some ⟨B.g l, 0, none⟩), .pointer (some ⟨L.g, 0, none⟩)] 47)).alloc (.cells #[.int .i64 k, .int .i64 a, .int .i64 b, .string s, .string t, .int .i64 p, .int .i64 q, .slice la 0 lc] 36)).alloc (.cells #[.bool false, .int .i64 5000, .int .u8 0] 40) := ⟨_, rfl⟩
  obtain ⟨rs, v, pp, v0, v1, hin⟩ : ∃ (rs : Bool) (v pp : Int), 0 ≤ pp ∧ pp ≤ 255 ∧ (rs = false ∧ v = 5000 ∧ pp = 0) := ⟨false, 5000, 0, by omega, by omega, rfl, rfl, rfl⟩
  obtain ⟨hin1, hin2, hin3⟩ := hin
  have g0 : Gone B n L l w W0 l st := by rw [hW0]; exact Gone.start hB h ((((Kept.refl _ w).alloc _).alloc _).alloc _)
  have hs0 : w.heap.size + 1 + 1 + 1 = W0.heap.size := by rw [hW0]; simp
  have hI : W0.cell? ⟨w.heap.size, 0, none⟩ = some (.pointer (some ⟨B.g l, 0, none⟩)) ∧ W0.cell? ⟨w.heap.size, 1, none⟩ = some (.pointer (some ⟨L.g, 0, none⟩)) ∧ W0.cell? ⟨w.heap.size + 1, 2, none⟩ = some (.int .i64 b) ∧ W0.cell? ⟨w.heap.size + 1 + 1, 0, none⟩ = some (.bool rs) ∧ W0.cell? ⟨w.heap.size + 1 + 1, 1, none⟩ = some (.int .i64 v) ∧ W0.cell? ⟨w.heap.size + 1 + 1, 2, none⟩ = some (.int .u8 pp) := by rw [hW0, hin1, hin2, hin3]; simp [go_sem]
  rw [← hW0]
  clear hW0 hin1 hin2 hin3
  go_loopw [8] (fun i wx => ∃ (j : Nat) (l1 : B.Lt) (st1 : St), (j : Int) ≤ pickN b 600 ∧ i = .int .i64 j ∧ Gone B (n + j) L l w wx l1 st1 ∧ (wx.cell? ⟨w.heap.size, 0, none⟩ = some (.pointer (some ⟨B.g l, 0, none⟩)) ∧ wx.cell? ⟨w.heap.size, 1, none⟩ = some (.pointer (some ⟨L.g, 0, none⟩)) ∧ wx.cell? ⟨w.heap.size + 1, 2, none⟩ = some (.int .i64 b) ∧ wx.cell? ⟨w.heap.size + 1 + 1, 0, none⟩ = some (.bool rs) ∧ wx.cell? ⟨w.heap.size + 1 + 1, 1, none⟩ = some (.int .i64 v) ∧ wx.cell? ⟨w.heap.size + 1 + 1, 2, none⟩ = some (.int .u8 pp)) ∧ w.heap.size + 1 + 1 + 1 ≤ wx.heap.size ∧ (∀ k, B.own l1 k → B.own l k ∨ w.heap.size + 1 + 1 + 1 ≤ k)) (fun i _ => 600 - (intOf i).toNat)
  case atStart => exact ⟨0, l, st, pk0, rfl, g0, hI, by omega, fun k hk => Or.inl hk⟩
  case round =>
    obtain ⟨j, l1, st1, hj, rfl, gx, ⟨x0, x1, x2, x3, x4, x5⟩, xs, xo⟩ := hrel
    clear g0 hI hs0
    have nn : ∀ d, d < 3 → ¬ bothOwn B L l1 (w.heap.size + d) := fun d hd e => by
      rcases e with e | e
      · exact hfr _ (by omega) (Or.inl e)
      · rcases xo _ e with y | y
        · exact hfr _ (by omega) (Or.inr y)
        · omega
    have hS : ∀ W : World, Kept (bothOwn B L l1) wr W → W.cell? ⟨w.heap.size, 0, none⟩ = some (.pointer (some ⟨B.g l, 0, none⟩)) ∧ W.cell? ⟨w.heap.size, 1, none⟩ = some (.pointer (some ⟨L.g, 0, none⟩)) ∧ W.cell? ⟨w.heap.size + 1, 2, none⟩ = some (.int .i64 b) ∧ W.cell? ⟨w.heap.size + 1 + 1, 0, none⟩ = some (.bool rs) ∧ W.cell? ⟨w.heap.size + 1 + 1, 1, none⟩ = some (.int .i64 v) ∧ W.cell? ⟨w.heap.size + 1 + 1, 2, none⟩ = some (.int .u8 pp) := fun W hW =>
      ⟨by rw [hW.cell (b := w.heap.size) (by omega) (nn 0 (by omega))]; exact x0, by rw [hW.cell (b := w.heap.size) (by omega) (nn 0 (by omega))]; exact x1, by rw [hW.cell (b := w.heap.size + 1) (by omega) (nn 1 (by omega))]; exact x2, by rw [hW.cell (b := w.heap.size + 1 + 1) (by omega) (nn 2 (by omega))]; exact x3, by rw [hW.cell (b := w.heap.size + 1 + 1) (by omega) (nn 2 (by omega))]; exact x4, by rw [hW.cell (b := w.heap.size + 1 + 1) (by omega) (nn 2 (by omega))]; exact x5⟩
    by_cases hlt : (j : Int) < pickN b 600
    · have hcall := stepped_any hB (n := n + j) (by omega) gx.both rs v pp v0 v1
      rw [gx.g] at hcall
      have HC : Hid _ := hcall
      clear hcall
      go_wp2_with fail
      refine (pick_any b 600 _ b0 b1 (by omega) (by omega)).mono ?_
      rintro e w0 ⟨rfl, rfl⟩
      go_wp2_with fail
      refine Calls.mono HC.out ?_
      rintro e w1 ⟨rfl, l2, hg2, hb2, hk2, ho2⟩
      go_wp2
      have gy := gx.more (hg2.trans gx.g.symm) hb2 hk2 ho2
      have zz : w.heap.size + 1 + 1 + 1 ≤ w1.heap.size := Nat.le_trans xs hk2.size
      exact ⟨⟨j + 1, l2, _, by omega, by go_num, gy, hS _ hk2, zz, fun k hk => by
        rcases ho2 k hk with y | y
        · exact xo k y
        · exact Or.inr (Nat.le_trans xs y)⟩, by simp [intOf]; omega⟩
    · go_wp2_with fail
      refine (pick_any b 600 _ b0 b1 (by omega) (by omega)).mono ?_
      rintro e w0 ⟨rfl, rfl⟩
      go_wp2
      go_ret
      exact ⟨rfl, l1, st1, gx.later hB (by omega)⟩

set_option maxRecDepth 100000 in
set_option maxHeartbeats 1000000 in
theorem steps_for_some {B : PB} (hB : PBok B) {n : Nat} (hcy : n + 600 < 1152921504606846976) {L : Lay} {l : B.Lt} {st : St} {w : World} (h : Both B n L l st w) (k a b p q : Int) (s t : ByteArray) (la : Option Addr) (ll lc : Nat) (hk6 : (k == 6) = false) (b0 : -9223372036854775808 ≤ b) (b1 : b ≤ 9223372036854775807) (T : Nat → Prop) (hT : ∀ k, T k → ¬ bothOwn B L l k) (hl : IsIns w T la ll) (hll : 0 < ll) (hmax : ll ≤ maxLen) :
    Calls Tryz.prog 16 #[.agg #[.pointer (some ⟨B.g l, 0, none⟩), .pointer (some ⟨L.g, 0, none⟩)], .agg #[.int .i64 k, .int .i64 a, .int .i64 b, .string s, .string t, .int .i64 p, .int .i64 q, .slice la ll lc]] w fun e w' => e = .returned (.bool true) ∧ ∃ l' st', Gone B (n + 600) L l w w' l' st' := by
  have hfr : ∀ n, w.heap.size ≤ n → ¬ bothOwn B L l n := fun n hn e => by have := h.lt hB e; omega
  obtain ⟨pk0, pk1⟩ := pickN_bounds b 600 (by omega)
  unfold maxLen at hmax
  rcases hl with hl | ⟨bb, off, rfl, hTb, hbb, hins⟩
  · omega
  obtain ⟨rs0, vv0, pp0, w0, w1, i0, i1, i2⟩ := hins 0 hll
  rw [Nat.zero_mul, Nat.add_zero] at i0 i1 i2
  have hll' : (0 : Int) < (ll : Int) := by omega
  have hbb1 : bb < w.heap.size + 1 := by omega
  have hbb2 : bb < w.heap.size + 1 + 1 := by omega
  go_enter Tryz.func16, Tryz.ntmps16
  go_wp2
  obtain ⟨W0, hW0⟩ : ∃ W0 : World, W0 = ((w.alloc (.cells #[.pointer (some ⟨B.g l, 0, none⟩), .pointer (some ⟨L.g, 0, none⟩)] 47)).alloc (.cells #[.int .i64 k, .int .i64 a, .int .i64 b, .string s, .string t, .int .i64 p, .int .i64 q, .slice (some ⟨bb, off, none⟩) ll lc] 36)).alloc (.cells #[.bool rs0, .int .i64 vv0, .int .u8 pp0] 40) := ⟨_, rfl⟩
  obtain ⟨rs, v, pp, v0, v1, hin⟩ : ∃ (rs : Bool) (v pp : Int), 0 ≤ pp ∧ pp ≤ 255 ∧ (rs = rs0 ∧ v = vv0 ∧ pp = pp0) := ⟨rs0, vv0, pp0, by omega, by omega, rfl, rfl, rfl⟩
  obtain ⟨hin1, hin2, hin3⟩ := hin
  have g0 : Gone B n L l w W0 l st := by rw [hW0]; exact Gone.start hB h ((((Kept.refl _ w).alloc _).alloc _).alloc _)
  have hs0 : w.heap.size + 1 + 1 + 1 = W0.heap.size := by rw [hW0]; simp
  have hI : W0.cell? ⟨w.heap.size, 0, none⟩ = some (.pointer (some ⟨B.g l, 0, none⟩)) ∧ W0.cell? ⟨w.heap.size, 1, none⟩ = some (.pointer (some ⟨L.g, 0, none⟩)) ∧ W0.cell? ⟨w.heap.size + 1, 2, none⟩ = some (.int .i64 b) ∧ W0.cell? ⟨w.heap.size + 1 + 1, 0, none⟩ = some (.bool rs) ∧ W0.cell? ⟨w.heap.size + 1 + 1, 1, none⟩ = some (.int .i64 v) ∧ W0.cell? ⟨w.heap.size + 1 + 1, 2, none⟩ = some (.int .u8 pp) := by rw [hW0, hin1, hin2, hin3]; simp [go_sem]
  rw [← hW0]
  clear hW0 hin1 hin2 hin3
  go_loopw [8] (fun i wx => ∃ (j : Nat) (l1 : B.Lt) (st1 : St), (j : Int) ≤ pickN b 600 ∧ i = .int .i64 j ∧ Gone B (n + j) L l w wx l1 st1 ∧ (wx.cell? ⟨w.heap.size, 0, none⟩ = some (.pointer (some ⟨B.g l, 0, none⟩)) ∧ wx.cell? ⟨w.heap.size, 1, none⟩ = some (.pointer (some ⟨L.g, 0, none⟩)) ∧ wx.cell? ⟨w.heap.size + 1, 2, none⟩ = some (.int .i64 b) ∧ wx.cell? ⟨w.heap.size + 1 + 1, 0, none⟩ = some (.bool rs) ∧ wx.cell? ⟨w.heap.size + 1 + 1, 1, none⟩ = some (.int .i64 v) ∧ wx.cell? ⟨w.heap.size + 1 + 1, 2, none⟩ = some (.int .u8 pp)) ∧ w.heap.size + 1 + 1 + 1 ≤ wx.heap.size ∧ (∀ k, B.own l1 k → B.own l k ∨ w.heap.size + 1 + 1 + 1 ≤ k)) (fun i _ => 600 - (intOf i).toNat)
  case atStart => exact ⟨0, l, st, pk0, rfl, g0, hI, by omega, fun k hk => Or.inl hk⟩
  case round =>
    obtain ⟨j, l1, st1, hj, rfl, gx, ⟨x0, x1, x2, x3, x4, x5⟩, xs, xo⟩ := hrel
    clear g0 hI hs0
    have nn : ∀ d, d < 3 → ¬ bothOwn B L l1 (w.heap.size + d) := fun d hd e => by
      rcases e with e | e
      · exact hfr _ (by omega) (Or.inl e)
      · rcases xo _ e with y | y
        · exact hfr _ (by omega) (Or.inr y)
        · omega
    have hS : ∀ W : World, Kept (bothOwn B L l1) wr W → W.cell? ⟨w.heap.size, 0, none⟩ = some (.pointer (some ⟨B.g l, 0, none⟩)) ∧ W.cell? ⟨w.heap.size, 1, none⟩ = some (.pointer (some ⟨L.g, 0, none⟩)) ∧ W.cell? ⟨w.heap.size + 1, 2, none⟩ = some (.int .i64 b) ∧ W.cell? ⟨w.heap.size + 1 + 1, 0, none⟩ = some (.bool rs) ∧ W.cell? ⟨w.heap.size + 1 + 1, 1, none⟩ = some (.int .i64 v) ∧ W.cell? ⟨w.heap.size + 1 + 1, 2, none⟩ = some (.int .u8 pp) := fun W hW =>
      ⟨by rw [hW.cell (b := w.heap.size) (by omega) (nn 0 (by omega))]; exact x0, by rw [hW.cell (b := w.heap.size) (by omega) (nn 0 (by omega))]; exact x1, by rw [hW.cell (b := w.heap.size + 1) (by omega) (nn 1 (by omega))]; exact x2, by rw [hW.cell (b := w.heap.size + 1 + 1) (by omega) (nn 2 (by omega))]; exact x3, by rw [hW.cell (b := w.heap.size + 1 + 1) (by omega) (nn 2 (by omega))]; exact x4, by rw [hW.cell (b := w.heap.size + 1 + 1) (by omega) (nn 2 (by omega))]; exact x5⟩
    by_cases hlt : (j : Int) < pickN b 600
    · have hcall := stepped_any hB (n := n + j) (by omega) gx.both rs v pp v0 v1
      rw [gx.g] at hcall
      have HC : Hid _ := hcall
      clear hcall
      go_wp2_with fail
      refine (pick_any b 600 _ b0 b1 (by omega) (by omega)).mono ?_
      rintro e w0 ⟨rfl, rfl⟩
      go_wp2_with fail
      refine Calls.mono HC.out ?_
      rintro e w1 ⟨rfl, l2, hg2, hb2, hk2, ho2⟩
      go_wp2
      have gy := gx.more (hg2.trans gx.g.symm) hb2 hk2 ho2
      have zz : w.heap.size + 1 + 1 + 1 ≤ w1.heap.size := Nat.le_trans xs hk2.size
      exact ⟨⟨j + 1, l2, _, by omega, by go_num, gy, hS _ hk2, zz, fun k hk => by
        rcases ho2 k hk with y | y
        · exact xo k y
        · exact Or.inr (Nat.le_trans xs y)⟩, by simp [intOf]; omega⟩
    · go_wp2_with fail
      refine (pick_any b 600 _ b0 b1 (by omega) (by omega)).mono ?_
      rintro e w0 ⟨rfl, rfl⟩
      go_wp2
      go_ret
      exact ⟨rfl, l1, st1, gx.later hB (by omega)⟩

end Go.Proofs.YtikdbpphbdbdnaaGreat

/- Tell of both boards. -/
namespace Go.Proofs.YtikdbpphbdbdnaaGreat
open Go.RowKit
set_option linter.unusedVariables false

theorem cellsOf_int' : Tryz.prog.cellsOf 3 = 1 := by kernel_rfl
theorem info_int : (Tryz.prog.info? 3).isSome = true := by kernel_rfl

/-- Two numbers are the same two numbers. -/
theorem eq_arr2 (x y : Int) (w : World) : (Op.equalIn 9999 33 (.agg #[.int .i64 x, .int .i64 y]) (.agg #[.int .i64 x, .int .i64 y])).run Tryz.prog w = .ok true w := by
  obtain ⟨i, hi⟩ := Option.isSome_iff_exists.1 info_int
  have h0 : (Op.equalIn 9998 3 (.int .i64 x) (.int .i64 x)).run Tryz.prog w = .ok true w := by
    rw [run_equalIn_int w 9997 3 .i64 .i64 x x Tryz.underlying3]; simp
  have h1 : (Op.equalIn 9998 3 (.int .i64 y) (.int .i64 y)).run Tryz.prog w = .ok true w := by
    rw [run_equalIn_int w 9997 3 .i64 .i64 y y Tryz.underlying3]; simp
  rw [show (9999 : Nat) = 9998 + 1 from rfl, run_equalIn_array (P := Tryz.prog) (w := w) 9998 _ _ Tryz.underlying33 hi, cellsOf_int']
  have p0 : (part 3 #[.int .i64 x, .int .i64 y] 0).run Tryz.prog w = .ok (.int .i64 x) w := by simp [go_sem]
  have p1 : (part 3 #[.int .i64 x, .int .i64 y] 1).run Tryz.prog w = .ok (.int .i64 y) w := by simp [go_sem]
  simp [Op.eqItems, List.range_succ, h0, h1, p0, p1]

set_option maxRecDepth 100000 in
set_option maxHeartbeats 1000000 in
theorem tells_tell {B : PB} (hB : PBok B) {n : Nat} {L : Lay} {l : B.Lt} {st : St} {w : World} (h : Both B n L l st w) (a b p q : Int) (s t : ByteArray) (la : Option Addr) (ll lc : Nat) :
    Calls Tryz.prog 18 #[.agg #[.pointer (some ⟨B.g l, 0, none⟩), .pointer (some ⟨L.g, 0, none⟩)], .agg #[.int .i64 8, .int .i64 a, .int .i64 b, .string s, .string t, .int .i64 p, .int .i64 q, .slice la ll lc]] w fun e w' => e = .returned (.bool true) ∧ ∃ l' st', Gone B n L l w w' l' st' := by
  have hfr : ∀ n, w.heap.size ≤ n → ¬ bothOwn B L l n := fun n hn e => by have := h.lt hB e; omega
  go_enter Tryz.func18, Tryz.ntmps18
  go_wp2_with fail
  refine (hB.tell n l st _ (hB.kept (S := fun _ => False) h.x (((Kept.refl _ w).alloc _).alloc _) (fun _ _ x => x)) h.inv).mono ?_
  rintro e w1 ⟨rfl, hx1, bl1⟩
  unfold St.told
  obtain ⟨hc, hf⟩ := bcell bl1
  have hz0 : w.heap.size < w1.heap.size := by have := bl1.size; simp at this; omega
  have hz1 : w.heap.size + 1 < w1.heap.size := by have := bl1.size; simp at this; omega
  have e0 : w1.cell? ⟨w.heap.size, 1, none⟩ = some (.pointer (some ⟨L.g, 0, none⟩)) := by rw [hc _ _ (by simp; omega)]; simp [go_sem]
  have k1 : Kept (fun _ => False) w w1 := (((Kept.refl _ w).alloc _).alloc _).trans (Kept.below bl1)
  have b1 := h.kept hB k1 (fun _ _ x => x)
  clear hc hf
  go_wp2_with fail
  refine (Rtell_any (b1.r.alloc _)).mono ?_
  rintro e w2 ⟨rfl, hr2, k2⟩
  unfold St.told
  obtain ⟨hc3, hf3⟩ := kcell k2 (b := w1.heap.size) (by simp) (b1.r.fresh _ (Nat.le_refl _))
  have hz2 : w1.heap.size < w2.heap.size := by have := k2.size; simp at this; omega
  have heq := fun W => eq_arr2 st.s0 st.s1 W
  go_wp2
  go_ret
  refine ⟨rfl, l, st, rfl, ⟨hr2.alloc _, ?_, h.inv, h.apart⟩, ?_, fun k hk => Or.inl hk⟩
  · exact hB.kept (S := L.own) hx1 ((((Kept.refl _ w1).alloc _).trans k2).alloc _) (fun k hk hL => h.apart k hL hk)
  · exact ((k1.wide (fun _ x => x.elim)).trans ((((Kept.refl _ w1).alloc _).trans k2).wide (fun k hk => Or.inl hk))).alloc _

end Go.Proofs.YtikdbpphbdbdnaaGreat

/- New of both boards; the list of boards grows. -/
namespace Go.Proofs.YtikdbpphbdbdnaaGreat
open Go.RowKit
set_option linter.unusedVariables false

theorem ownsRow_same {w w' : World} {base : Nat} {e : TypeId} {size : Nat} {v : Value} {n : Nat} {xs : List Value} (h : w.ownsRow base e size v n xs) (hk : ∀ k, v.ownBlock = some k → w'.heap[k]? = w.heap[k]?) : w'.ownsRow base e size v n xs := by
  refine ⟨h.1, ?_⟩
  rcases h.2 with h2 | ⟨g, cap, cur, hv, hb, hg, h3⟩
  · exact Or.inl h2
  · exact Or.inr ⟨g, cap, cur, hv, hb, by rw [hk g (by rw [hv]; rfl)]; exact hg, h3⟩

theorem pair_info : (Tryz.prog.info? 47).map (fun i => (i.size, i.bytes, i.zero.map (·.cells.size))) = some (2, 16, some 2) := by kernel_rfl

theorem pair_info' : ∃ i z, Tryz.prog.info? 47 = some i ∧ i.zero = some z ∧ i.size = 2 ∧ i.bytes = 16 ∧ z.cells.size = 2 := by
  have h := pair_info
  cases hi : Tryz.prog.info? 47 with
  | none => rw [hi] at h; cases h
  | some i =>
    rw [hi] at h
    simp only [Option.map_some, Option.some.injEq, Prod.mk.injEq] at h
    obtain ⟨h1, h2, h3⟩ := h
    cases hz : i.zero with
    | none => rw [hz] at h3; cases h3
    | some z =>
      rw [hz] at h3
      simp only [Option.map_some, Option.some.injEq] at h3
      exact ⟨i, z, rfl, hz, h1, h2, h3⟩

set_option maxRecDepth 100000 in
set_option maxHeartbeats 1000000 in
theorem made_no {B : PB} (hB : PBok B) (a b : ByteArray) (g : Nat) (w : World) (ha : a.size ≤ maxLen) (hb : b.size ≤ maxLen) (hn : ¬ (a.size = 64 ∧ b.size = 64)) :
    Calls Tryz.prog 13 #[.pointer (some ⟨g, 0, none⟩), .string a, .string b] w fun e w' => e = .returned (.bool true) ∧ Below w.heap.size w w' := by
  have hcall : ∀ W : World, Calls Tryz.prog 28 #[.string a, .string b] W fun e w' => e = .returned (.tuple #[.pointer none, .int .i64 1]) ∧ w' = W := fun W => by
    by_cases h1 : a.size = 64
    · exact Rnew_no2 a b W h1 (fun h2 => hn ⟨h1, h2⟩)
    · exact Rnew_no1 a b W h1
  have HC : Hid _ := hcall
  clear hcall
  go_enter Tryz.func13, Tryz.ntmps13
  go_wp2_with fail
  refine (hB.new_no a b _ ha hb hn).mono ?_
  rintro e w1 ⟨rfl, b1⟩
  go_wp2_with fail
  refine Calls.mono (HC.out _) ?_
  rintro e w2 ⟨rfl, rfl⟩
  go_wp2_with (go_at_call 22; refine (num_any _ _).mono ?_; rintro e w' ⟨rfl, rfl⟩)
  go_ret
  exact ⟨rfl, b1⟩

theorem num_same (n : Int) (w : World) : Calls Tryz.prog 22 #[.int .i64 n] w fun e w' => e = .returned (.int .i64 n) ∧ w = w' := (num_any n w).mono fun e w' h => ⟨h.1, h.2.symm⟩

set_option maxRecDepth 100000 in
set_option maxHeartbeats 1000000 in
theorem made_ok {B : PB} (hB : PBok B) (a b : ByteArray) (g base n : Nat) (vb : Value) (xs : List Value) (w : World) (ha : a.size = 64) (hb : b.size = 64)
    (c0 : w.cell? ⟨g, 0, none⟩ = some vb) (f0 : w.frozen? ⟨g, 0, none⟩ = false) (hown : w.ownsRow base 47 2 vb n xs) (hne : vb.ownBlock ≠ some g) (h63 : n + 1 ≤ maxLen) (hby : (n + 1) * 16 ≤ 140737488355328) (hbase : base ≤ w.heap.size) :
    Calls Tryz.prog 13 #[.pointer (some ⟨g, 0, none⟩), .string a, .string b] w fun e w' => e = .returned (.bool true) ∧
      ∃ (l : B.Lt) (L : Lay) (g' cap : Nat), Both B 0 L l (newSt a b) w' ∧ (∀ k, bothOwn B L l k → w.heap.size ≤ k ∧ k ≠ g') ∧ w'.cell? ⟨g, 0, none⟩ = some (.slice (some ⟨g', 0, none⟩) (n + 1) cap) ∧
        w'.ownsRow base 47 2 (.slice (some ⟨g', 0, none⟩) (n + 1) cap) (n + 1) (xs ++ [.pointer (some ⟨B.g l, 0, none⟩), .pointer (some ⟨L.g, 0, none⟩)]) ∧ g' ≠ g ∧ (vb.ownBlock = some g' ∨ w.heap.size ≤ g') ∧ Kept (fun k => k = g ∨ vb.ownBlock = some k) w w' ∧ (∀ j, j ≠ 0 → w'.cell? ⟨g, j, none⟩ = w.cell? ⟨g, j, none⟩) ∧ (∀ j, w'.frozen? ⟨g, j, none⟩ = w.frozen? ⟨g, j, none⟩) := by
  have hg := lt_of_cell c0
  obtain ⟨i, z, hi, hz, hsize, hbytes, hzs⟩ := pair_info'
  go_enter Tryz.func13, Tryz.ntmps13
  go_wp2_with fail
  refine (hB.new_ok a b _ ha hb).mono ?_
  rintro e w1 ⟨l, rfl, hx1, b1, o1⟩
  go_wp2_with fail
  refine (Rnew_ok a b _ ha hb).mono ?_
  rintro e w2 ⟨L, rfl, hr2, b2, o2, o3, o4⟩
  have b3 : Below w.heap.size w w2 := b1.trans (b2.mono b1.size)
  have c2 : w2.cell? ⟨g, 0, none⟩ = some vb := by rw [b3.cell (p := ⟨g, 0, none⟩) hg]; exact c0
  have f2 : w2.frozen? ⟨g, 0, none⟩ = false := by rw [b3.frozen (p := ⟨g, 0, none⟩) hg]; exact f0
  have hg2 : g < w2.heap.size := Nat.lt_of_lt_of_le hg b3.size
  have hown2 : w2.ownsRow base 47 2 vb n xs := ownsRow_same hown (fun k hk => b3.block k (by
    rcases hown.2 with ⟨hv, _⟩ | ⟨g1, cap1, cur1, hv, _, hg1, _⟩
    · rw [hv] at hk; cases hk
    · rw [hv] at hk
      cases hk
      exact (Array.getElem?_eq_some_iff.1 hg1).1))
  have hown3 : (w2.alloc (.cells #[.pointer (some ⟨B.g l, 0, none⟩), .pointer (some ⟨L.g, 0, none⟩)] 47)).ownsRow base 47 2 vb n xs := hown2.alloc _
  have hbase3 : base ≤ (w2.alloc (.cells #[.pointer (some ⟨B.g l, 0, none⟩), .pointer (some ⟨L.g, 0, none⟩)] 47)).heap.size := by rw [World.size_alloc]; have := b3.size; omega
  have hfar : ∀ w4 : World, (w2.alloc (.cells #[.pointer (some ⟨B.g l, 0, none⟩), .pointer (some ⟨L.g, 0, none⟩)] 47)).grownBy w4 vb.ownBlock → w4.heap[g]? = w2.heap[g]? := fun w4 hgr => by
    rw [hgr.block g (by rw [World.size_alloc]; omega) (fun h => hne h.symm), Below.heap_alloc _ _ _ hg2]
  have he0 : ∀ w4 : World, (w2.alloc (.cells #[.pointer (some ⟨B.g l, 0, none⟩), .pointer (some ⟨L.g, 0, none⟩)] 47)).grownBy w4 vb.ownBlock → w4.cell? ⟨g, 0, none⟩ = some vb := fun w4 hgr => by
    rw [World.cell?_of_block (w := w2) (a := ⟨g, 0, none⟩) (hfar w4 hgr)]; exact c2
  have hef : ∀ w4 : World, (w2.alloc (.cells #[.pointer (some ⟨B.g l, 0, none⟩), .pointer (some ⟨L.g, 0, none⟩)] 47)).grownBy w4 vb.ownBlock → w4.frozen? ⟨g, 0, none⟩ = false := fun w4 hgr => by
    rw [World.frozen?_of_block (w := w2) (a := ⟨g, 0, none⟩) (hfar w4 hgr)]; exact f2
  go_wp2_with (first | (go_at_call 22; refine (num_same _ _).mono ?_; rintro e w' ⟨rfl, rfl⟩) | (at_builtin; refine wpList_append_lies _ rfl _ _ 26 rfl base 47 i z 2 16 Tryz.underlying26 hi hz hsize hbytes hzs (by decide) vb n xs rfl hown3 ⟨w2.heap.size, 0, none⟩ 1 1 [.pointer (some ⟨B.g l, 0, none⟩), .pointer (some ⟨L.g, 0, none⟩)] rfl rfl (cell_two_new _ _ _ _) (fun x hx => by simp at hx; rcases hx with rfl | rfl <;> rfl) (by decide) h63 hby hbase3 _ rfl ?_; intro g' cap w4 hown4 hgrow hat hlt4; have e0 := he0 w4 hgrow; have ef := hef w4 hgrow))
  go_ret
  have hrow : ∀ k, vb.ownBlock = some k → k < w.heap.size := fun k hk => by
    rcases hown.2 with ⟨hv, _⟩ | ⟨g1, cap1, cur1, hv, _, hg1, _⟩
    · rw [hv] at hk; cases hk
    · rw [hv] at hk
      cases hk
      exact (Array.getElem?_eq_some_iff.1 hg1).1
  have hkg : Kept (fun k => k = g ∨ vb.ownBlock = some k) w2 w4 := ((Kept.refl _ w2).alloc _).trans ⟨hgrow.os, hgrow.tape, hgrow.output, hgrow.size, fun k hk hS => hgrow.block k hk (fun e => hS (Or.inr e.symm))⟩
  have hKF : Kept (fun k => k = g ∨ vb.ownBlock = some k) w2 (w4.setCell ⟨g, 0, none⟩ (.slice (some ⟨g', 0, none⟩) (n + 1) cap)) := hkg.setCell (Or.inl (Or.inl rfl)) _
  have hx2 : B.rep 0 l (newSt a b) w2 := hB.kept (S := fun _ => False) hx1 (Kept.below b2) (fun _ _ x => x)
  have hfreshL : ∀ k, L.own k → w.heap.size ≤ k := fun k hk => by
    have := b1.size
    rcases hk with rfl | rfl | rfl <;> omega
  have hfresh : ∀ k, bothOwn B L l k → w.heap.size ≤ k := fun k hk => by
    rcases hk with hk | hk
    · exact hfreshL k hk
    · exact o1 k hk
  have hS : ∀ k, bothOwn B L l k → ¬ (k = g ∨ vb.ownBlock = some k) := fun k hk e => by
    have h1 := hfresh k hk
    rcases e with e | e
    · omega
    · have := hrow k e; omega
  have hap : ∀ k, L.own k → ¬ B.own l k := fun k hL hk => by
    have h1 := hB.lt hx1 hk
    rcases hL with rfl | rfl | rfl <;> omega
  have hb0 : Both B 0 L l (newSt a b) w2 := ⟨hr2, hx2, newSt_inv a b, hap⟩
  have hgg : g' ≠ g := by
    rintro rfl
    rcases hat with h | h
    · exact hne h
    · rw [World.size_alloc] at h; omega
  refine ⟨rfl, l, L, g', cap, hb0.kept hB hKF hS, fun k hk => ⟨hfresh k hk, fun e => ?_⟩, World.cell?_setCell_same _ _ _ e0, ?_, hgg, ?_, ?_, fun j hj => ?_, fun j => ?_⟩
  · have h1 := hfresh k hk
    have h2 := hb0.lt hB hk
    rcases hat with h | h
    · have := hrow g' h; omega
    · rw [World.size_alloc] at h; omega
  · refine ownsRow_same hown4 (fun k hk => ?_)
    cases hk
    exact Below.heap_setCell _ _ _ _ hgg
  · rcases hat with h | h
    · exact Or.inl h
    · right
      rw [World.size_alloc] at h
      have := b3.size
      omega
  · refine Kept.trans (b := w2) ?_ hKF
    exact ⟨b3.os, b3.tape, b3.output, b3.size, fun k hk _ => b3.block k hk⟩
  · rw [World.cell?_setCell_other _ _ _ _ (by intro x; exact hj (congrArg Addr.off x).symm), World.cell?_of_block (w := w) (a := ⟨g, j, none⟩) ((hfar w4 hgrow).trans (b3.block g hg))]
  · rw [World.frozen?_setCell, World.frozen?_of_block (w := w) (a := ⟨g, j, none⟩) ((hfar w4 hgrow).trans (b3.block g hg))]

end Go.Proofs.YtikdbpphbdbdnaaGreat
