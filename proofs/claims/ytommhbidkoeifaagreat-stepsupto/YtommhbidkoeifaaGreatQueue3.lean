/- The queue: container/heap's Push, Pop and Remove of a list of two at most. -/
import Derived.Test.YtommhbidkoeifaaGreatQueue2
namespace Go.Proofs.YtommhbidkoeifaaGreat
open Go.RowKit
set_option linter.unusedVariables false

/-- The queue as container/heap sees it. -/
def heapV (l : XL) : Value := .iface 180 (.pointer (some ⟨l.ck, 1, none⟩))

set_option maxRecDepth 100000 in
set_option maxHeartbeats 1000000 in
theorem hup_0 (l : XL) (w : World) :
    Calls Tryz.prog 111 #[.iface 180 (.pointer (some ⟨l.ck, 1, none⟩)), .int .i64 0] w fun e w' => e = .returned (.tuple #[]) ∧ w' = w := by
  go_enter Tryz.func111, Tryz.ntmps111
  go_wp2
  go_loop [1] (fun j => j = .int .i64 0) (fun _ => 0)
  case atStart => exact rfl
  case round =>
    subst hrel
    go_wp2
    (first | go_end0 | refine bodyPost_ret (results_none rfl _ _ _) rfl ?_)
    exact ⟨rfl, rfl⟩

set_option maxRecDepth 100000 in
set_option maxHeartbeats 1000000 in
theorem hup_1 {l : XL} {st : St} {ex : Ext} {w : World} (hr : XRep l st ex w) {d0 d1 : Du} (hd : ex.due = [d0, d1]) :
    Calls Tryz.prog 111 #[.iface 180 (.pointer (some ⟨l.ck, 1, none⟩)), .int .i64 1] w fun e w' => e = .returned (.tuple #[]) ∧ XRep l st { ex with due := if lessB d1 d0 = true then [d1, d0] else [d0, d1] } w' ∧ Kept l.own w w' := by
  obtain ⟨h, hq⟩ := hr.q_some (by rw [hd]; simp)
  have c9 := hr.c_q hq (n := 2) (by rw [hd]; rfl)
  have hmL := meth_Less l.ck 1 _ _ _ w c9
  have hnot : ∀ (x : Bool) (w : World), (Op.unary .not (.bool x)).run Tryz.prog w = .ok (.bool (!x)) w := fun _ _ => rfl
  have HL : Hid _ := eLess_10 hr hq hd
  cases hb : lessB d1 d0
  · have HB : Hid _ := hb
    have HF : Hid (XRep l st { ex with due := [d0, d1] } w) := hr.as rfl (by rw [← hd])
    clear hb
    go_enter Tryz.func111, Tryz.ntmps111
    go_wp2
    go_loop [1] (fun j => j = .int .i64 1) (fun _ => 0)
    case atStart => exact rfl
    case round =>
      subst hrel
      go_wp2_with fail
      refine Calls.mono HL.out ?_
      rintro e w1 ⟨rfl, n, rfl⟩
      rw [HB.out]
      go_wp2
      (first | go_end0 | refine bodyPost_ret (results_none rfl _ _ _) rfl ?_)
      exact ⟨rfl, HF.out.drewN _, (Kept.refl _ _).drewN _⟩
  · have HB : Hid _ := hb
    have HS : Hid (∀ n, Calls Tryz.prog 130 #[.slice (some ⟨h, 0, none⟩) 2 l.cap, .int .i64 0, .int .i64 1] (w.drewN n) fun e w' => e = .returned (.tuple #[]) ∧ XRep l st { ex with due := [d1, d0] } w' ∧ Kept l.own w w') := fun n => (eSwap_01 (hr.drewN n) hq hd).mono fun e w' ⟨h1, h2, h3⟩ => ⟨h1, h2, ((Kept.refl _ w).drewN n).trans h3⟩
    have hmS : ∀ n, _ := fun n => meth_Swap l.ck 1 _ _ _ (w.drewN n) ((hr.drewN n).c_q hq (n := 2) (by rw [hd]; rfl))
    clear hb
    go_enter Tryz.func111, Tryz.ntmps111
    go_wp2
    go_loopw [1] (fun j wx => (j = .int .i64 1 ∧ wx = w) ∨ (j = .int .i64 0 ∧ XRep l st { ex with due := [d1, d0] } wx ∧ Kept l.own w wx)) (fun j _ => (intOf j).toNat)
    case atStart => exact Or.inl ⟨rfl, rfl⟩
    case round =>
      rcases hrel with ⟨rfl, rfl⟩ | ⟨rfl, hx, kx⟩
      · go_wp2_with fail
        refine Calls.mono HL.out ?_
        rintro e w1 ⟨rfl, n, rfl⟩
        rw [HB.out]
        go_wp2_with fail
        refine Calls.mono (HS.out n) ?_
        rintro e w1 ⟨rfl, hx, kx⟩
        go_wp2
        exact ⟨Or.inr ⟨rfl, hx, kx⟩, by decide⟩
      · go_wp2
        (first | go_end0 | refine bodyPost_ret (results_none rfl _ _ _) rfl ?_)
        exact ⟨rfl, hx, kx⟩

set_option maxRecDepth 100000 in
set_option maxHeartbeats 1000000 in
theorem hdown_any (v : Value) (n : Int) (hn : n ≤ 1) (w : World) :
    Calls Tryz.prog 108 #[v, .int .i64 0, .int .i64 n] w fun e w' => e = .returned (.bool false) ∧ w' = w := by
  go_enter Tryz.func108, Tryz.ntmps108
  go_wp2
  go_loop [7] (fun j => j = .int .i64 0) (fun _ => 0)
  case atStart => exact rfl
  case round =>
    subst hrel
    go_wp2
    go_ret
    exact ⟨rfl, rfl⟩

set_option maxRecDepth 100000 in
set_option maxHeartbeats 1000000 in
theorem hRemove_1 {l : XL} {st : St} {ex : Ext} {w : World} (hr : XRep l st ex w) {d0 : Du} (hd : ex.due = [d0]) :
    Calls Tryz.prog 109 #[.iface 180 (.pointer (some ⟨l.ck, 1, none⟩)), .int .i64 0] w fun e w' => e = .returned (duVal l d0) ∧ XRep l st { ex with due := [] } w' ∧ Kept l.own w w' := by
  obtain ⟨h, hq⟩ := hr.q_some (by rw [hd]; simp)
  have c9 := hr.c_q hq (n := 1) (by rw [hd]; rfl)
  have hm1 := meth_Len l.ck 1 _ _ _ w c9
  have hm2 := meth_Pop
  go_enter Tryz.func109, Tryz.ntmps109
  go_wp2_with fail
  refine (eLen_any _ _ _ _ (by unfold maxLen; omega)).mono ?_
  rintro e w1 ⟨rfl, rfl⟩
  go_wp2_with fail
  refine (ePop_1 hr hd).mono ?_
  rintro e w1 ⟨rfl, hr1, k1⟩
  go_wp2
  go_ret
  exact ⟨rfl, hr1, k1⟩

set_option maxRecDepth 100000 in
set_option maxHeartbeats 1000000 in
theorem hRemove_21 {l : XL} {st : St} {ex : Ext} {w : World} (hr : XRep l st ex w) {d0 d1 : Du} (hd : ex.due = [d0, d1]) :
    Calls Tryz.prog 109 #[.iface 180 (.pointer (some ⟨l.ck, 1, none⟩)), .int .i64 1] w fun e w' => e = .returned (duVal l d1) ∧ XRep l st { ex with due := [d0] } w' ∧ Kept l.own w w' := by
  obtain ⟨h, hq⟩ := hr.q_some (by rw [hd]; simp)
  have c9 := hr.c_q hq (n := 2) (by rw [hd]; rfl)
  have hm1 := meth_Len l.ck 1 _ _ _ w c9
  have hm2 := meth_Pop
  go_enter Tryz.func109, Tryz.ntmps109
  go_wp2_with fail
  refine (eLen_any _ _ _ _ (by unfold maxLen; omega)).mono ?_
  rintro e w1 ⟨rfl, rfl⟩
  go_wp2_with fail
  refine (ePop_2 hr hd).mono ?_
  rintro e w1 ⟨rfl, hr1, k1⟩
  go_wp2
  go_ret
  exact ⟨rfl, hr1, k1⟩

set_option maxRecDepth 100000 in
set_option maxHeartbeats 1000000 in
theorem hRemove_20 {l : XL} {st : St} {ex : Ext} {w : World} (hr : XRep l st ex w) {d0 d1 : Du} (hd : ex.due = [d0, d1]) :
    Calls Tryz.prog 109 #[.iface 180 (.pointer (some ⟨l.ck, 1, none⟩)), .int .i64 0] w fun e w' => e = .returned (duVal l d0) ∧ XRep l st { ex with due := [d1] } w' ∧ Kept l.own w w' := by
  obtain ⟨h, hq⟩ := hr.q_some (by rw [hd]; simp)
  have c9 := hr.c_q hq (n := 2) (by rw [hd]; rfl)
  have hm1 := meth_Len l.ck 1 _ _ _ w c9
  have hm3 := meth_Swap l.ck 1 _ _ _ w c9
  have hm2 := meth_Pop
  have hnot : ∀ (x : Bool) (w : World), (Op.unary .not (.bool x)).run Tryz.prog w = .ok (.bool (!x)) w := fun _ _ => rfl
  go_enter Tryz.func109, Tryz.ntmps109
  go_wp2_with fail
  refine (eLen_any _ _ _ _ (by unfold maxLen; omega)).mono ?_
  rintro e w1 ⟨rfl, rfl⟩
  go_wp2_with fail
  refine (eSwap_01 hr hq hd).mono ?_
  rintro e w1 ⟨rfl, hr1, k1⟩
  go_wp2_with fail
  refine (hdown_any _ 1 (by omega) _).mono ?_
  rintro e w2 ⟨rfl, rfl⟩
  go_wp2_with fail
  refine (hup_0 l _).mono ?_
  rintro e w2 ⟨rfl, rfl⟩
  go_wp2_with fail
  refine (ePop_2 hr1 rfl).mono ?_
  rintro e w3 ⟨rfl, hr3, k3⟩
  have k4 := k1.trans k3
  go_wp2
  go_ret
  exact ⟨rfl, hr3, k4⟩

set_option maxRecDepth 100000 in
set_option maxHeartbeats 1000000 in
theorem hPop_1 {l : XL} {st : St} {ex : Ext} {w : World} (hr : XRep l st ex w) {d0 : Du} (hd : ex.due = [d0]) :
    Calls Tryz.prog 101 #[.iface 180 (.pointer (some ⟨l.ck, 1, none⟩))] w fun e w' => e = .returned (duVal l d0) ∧ XRep l st { ex with due := [] } w' ∧ Kept l.own w w' := by
  obtain ⟨h, hq⟩ := hr.q_some (by rw [hd]; simp)
  have c9 := hr.c_q hq (n := 1) (by rw [hd]; rfl)
  have hm1 := meth_Len l.ck 1 _ _ _ w c9
  have hm3 := meth_Swap l.ck 1 _ _ _ w c9
  have hm2 := meth_Pop
  go_enter Tryz.func101, Tryz.ntmps101
  go_wp2_with fail
  refine (eLen_any _ _ _ _ (by unfold maxLen; omega)).mono ?_
  rintro e w1 ⟨rfl, rfl⟩
  go_wp2_with fail
  refine (eSwap_00 hr hq hd).mono ?_
  rintro e w1 ⟨rfl, hr1, k1⟩
  go_wp2_with fail
  refine (hdown_any _ 0 (by omega) _).mono ?_
  rintro e w2 ⟨rfl, rfl⟩
  go_wp2_with fail
  refine (ePop_1 hr1 hd).mono ?_
  rintro e w3 ⟨rfl, hr3, k3⟩
  have k4 := k1.trans k3
  go_wp2
  go_ret
  exact ⟨rfl, hr3, k4⟩

set_option maxRecDepth 100000 in
set_option maxHeartbeats 1000000 in
theorem hPop_2 {l : XL} {st : St} {ex : Ext} {w : World} (hr : XRep l st ex w) {d0 d1 : Du} (hd : ex.due = [d0, d1]) :
    Calls Tryz.prog 101 #[.iface 180 (.pointer (some ⟨l.ck, 1, none⟩))] w fun e w' => e = .returned (duVal l d0) ∧ XRep l st { ex with due := [d1] } w' ∧ Kept l.own w w' := by
  obtain ⟨h, hq⟩ := hr.q_some (by rw [hd]; simp)
  have c9 := hr.c_q hq (n := 2) (by rw [hd]; rfl)
  have hm1 := meth_Len l.ck 1 _ _ _ w c9
  have hm3 := meth_Swap l.ck 1 _ _ _ w c9
  have hm2 := meth_Pop
  go_enter Tryz.func101, Tryz.ntmps101
  go_wp2_with fail
  refine (eLen_any _ _ _ _ (by unfold maxLen; omega)).mono ?_
  rintro e w1 ⟨rfl, rfl⟩
  go_wp2_with fail
  refine (eSwap_01 hr hq hd).mono ?_
  rintro e w1 ⟨rfl, hr1, k1⟩
  go_wp2_with fail
  refine (hdown_any _ 1 (by omega) _).mono ?_
  rintro e w2 ⟨rfl, rfl⟩
  go_wp2_with fail
  refine (ePop_2 hr1 rfl).mono ?_
  rintro e w3 ⟨rfl, hr3, k3⟩
  have k4 := k1.trans k3
  go_wp2
  go_ret
  exact ⟨rfl, hr3, k4⟩

/-- One more in the list, in its order. -/
def pushD (ds : List Du) (d : Du) : List Du := match ds with
  | [d0] => if lessB d d0 = true then [d, d0] else [d0, d]
  | _ => ds ++ [d]

theorem Grew.ck {l l' : XL} {w : World} (h : Grew l l' w) : l'.ck = l.ck := by obtain ⟨q, cap, rfl, _⟩ := h; rfl
theorem Grew.what {l l' : XL} {w : World} (h : Grew l l' w) (d : Du) : duWhat l' d = duWhat l d := by obtain ⟨q, cap, rfl, _⟩ := h; rfl
theorem Grew.blk {l l' : XL} {w : World} (h : Grew l l' w) (j : Nat) : l'.blk j = l.blk j := by obtain ⟨q, cap, rfl, _⟩ := h; exact blk_q l q cap j
theorem Grew.own {l l' : XL} {w : World} (h : Grew l l' w) {k : Nat} (hk : l'.own k) : l.own k ∨ w.heap.size ≤ k := by
  rcases hk with ⟨j, hj, rfl⟩ | hk
  · rw [h.blk]; exact Or.inl (Or.inl ⟨j, hj, rfl⟩)
  · obtain ⟨q, cap, rfl, hq⟩ := h
    rcases hq k hk with x | x
    · exact Or.inl (Or.inr x)
    · exact Or.inr x
theorem Grew.refl (l : XL) (w : World) : Grew l l w := ⟨l.q, l.cap, rfl, fun h hh => Or.inl hh⟩
/-- What is kept but for the blocks behind it is kept but for those ahead of it. -/
theorem Grew.kept {l l' : XL} {w w1 w2 : World} (h : Grew l l' w) (hs : w.heap.size ≤ w1.heap.size) (hk1 : Kept l.own w w1) (hk : Kept l'.own w1 w2) : Kept l.own w w2 :=
  ⟨hk.os.trans hk1.os, hk.tape.trans hk1.tape, hk.output.trans hk1.output, Nat.le_trans hk1.size hk.size, fun k hlt hS => by
    rw [hk.block k (Nat.lt_of_lt_of_le hlt hk1.size) (fun x => ?_), hk1.block k hlt hS]
    rcases h.own x with y | y
    · exact hS y
    · omega⟩

set_option maxRecDepth 100000 in
set_option maxHeartbeats 1000000 in
theorem hPush_0 {l : XL} {st : St} {ex : Ext} {w : World} (hr : XRep l st ex w) (hd : ex.due = []) (d : Du) :
    Calls Tryz.prog 110 #[.iface 180 (.pointer (some ⟨l.ck, 1, none⟩)), duVal l d] w fun e w' => e = .returned (.tuple #[]) ∧ ∃ l', Grew l l' w ∧ XRep l' st { ex with due := [d] } w' ∧ Kept l.own w w' := by
  have hm2 := meth_Push
  have HP : Hid _ := ePush_any hr d (by rw [hd]; simp)
  rw [hd] at HP
  unfold duVal at HP ⊢
  go_enter Tryz.func110, Tryz.ntmps110
  go_wp2_with fail
  refine Calls.mono HP.out ?_
  rintro e w1 ⟨rfl, l', gl, hr1, k1⟩
  obtain ⟨h, hq⟩ := hr1.q_some (by simp)
  have c9 := hr1.c_q hq (n := 1) rfl
  rw [gl.ck] at c9
  have hm1 := meth_Len l.ck 1 _ _ _ w1 c9
  go_wp2_with fail
  refine (eLen_any _ _ _ _ (by unfold maxLen; omega)).mono ?_
  rintro e w2 ⟨rfl, rfl⟩
  go_wp2_with fail
  refine (hup_0 l _).mono ?_
  rintro e w2 ⟨rfl, rfl⟩
  go_wp2
  (first | go_end0 | refine bodyPost_ret (results_none rfl _ _ _) rfl ?_)
  exact ⟨rfl, l', gl, hr1, k1⟩

set_option maxRecDepth 100000 in
set_option maxHeartbeats 1000000 in
theorem hPush_1 {l : XL} {st : St} {ex : Ext} {w : World} (hr : XRep l st ex w) {d0 : Du} (hd : ex.due = [d0]) (d : Du) :
    Calls Tryz.prog 110 #[.iface 180 (.pointer (some ⟨l.ck, 1, none⟩)), duVal l d] w fun e w' => e = .returned (.tuple #[]) ∧ ∃ l', Grew l l' w ∧ XRep l' st { ex with due := pushD [d0] d } w' ∧ Kept l.own w w' := by
  have hm2 := meth_Push
  have HP : Hid _ := ePush_any hr d (by rw [hd]; simp)
  rw [hd] at HP
  unfold duVal at HP ⊢
  go_enter Tryz.func110, Tryz.ntmps110
  go_wp2_with fail
  refine Calls.mono HP.out ?_
  rintro e w1 ⟨rfl, l', gl, hr1, k1⟩
  obtain ⟨h, hq⟩ := hr1.q_some (by simp)
  have c9 := hr1.c_q hq (n := 2) rfl
  have HU : Hid _ := hup_1 hr1 (d0 := d0) (d1 := d) rfl
  rw [gl.ck] at c9 HU
  have hm1 := meth_Len l.ck 1 _ _ _ w1 c9
  go_wp2_with fail
  refine (eLen_any _ _ _ _ (by unfold maxLen; omega)).mono ?_
  rintro e w2 ⟨rfl, rfl⟩
  go_wp2_with fail
  refine Calls.mono HU.out ?_
  rintro e w2 ⟨rfl, hr2, k2⟩
  have k3 := gl.kept k1.size k1 k2
  go_wp2
  (first | go_end0 | refine bodyPost_ret (results_none rfl _ _ _) rfl ?_)
  exact ⟨rfl, l', gl, hr2, k3⟩

end Go.Proofs.YtommhbidkoeifaaGreat
