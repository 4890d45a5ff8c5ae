/- The program's processor: its cycle, by what the cycle is for. -/
import Derived.Test.YtommhbidkoeifaaGreatCpu6
import Derived.Test.YtommhbidkoeifaaGreatRelP
namespace Go.Proofs.YtommhbidkoeifaaGreat
open Go.RowKit
set_option linter.unusedVariables false

set_option maxRecDepth 100000 in
set_option maxHeartbeats 1000000 in
theorem zCycle_idle {l : XL} {st : St} {ex : Ext} {w : World} (hr : XRep l st ex w) (hw : ex.wait = true) :
    Calls Tryz.prog 73 #[.pointer (some ⟨l.g, 0, none⟩), .iface 133 (.slice (some ⟨l.bs, 0, none⟩) 7 7), .bool false] w fun e w' => e = .returned (.agg #[.int .i64 2, .int .i64 0, .int .u8 0, .int .u8 0]) ∧ Went l st ex w w' := by
  have c1 := hr.c_wait
  rw [hw] at c1
  have hgl := hr.g_q
  have hnot : ∀ (x : Bool) (w : World), (Op.unary .not (.bool x)).run Tryz.prog w = .ok (.bool (!x)) w := fun _ _ => rfl
  clear hw
  go_enter Tryz.func73, Tryz.ntmps73
  go_wp2
  refine bodyPost_ret (v := .agg #[.int .i64 2, .int .i64 0, .int .u8 0, .int .u8 0]) (by simp [results, Tryz.results73, go_sem]) rfl ⟨rfl, Went.mk ?r ?k⟩
  case r => (repeat (with_reducible first | apply XRep.alloc | apply XRep.drewN | apply XRep.drew | apply XRep.set_a | apply XRep.set_x | apply XRep.set_pc | apply XRep.set_zero | apply XRep.set_carry | apply XRep.set_ph | apply XRep.set_op | apply XRep.set_addr | apply XRep.set_wait | apply XRep.set_down | apply XRep.set_left | apply XRep.set_now | apply XRep.set_s0 | apply XRep.set_s1 | apply XRep.set_bank | apply XRep.set_period | apply XRep.set_next | apply XRep.set_flag | apply XRep.set_fed | apply XRep.set_window | apply XRep.set_taken | apply XRep.set_key | apply XRep.set_early | apply XRep.set_out | apply XRep.set_inp | apply XRep.set_opn | apply XRep.set_place | apply XRep.set_cause | (apply XRep.other; case hb => exact hfr _ (by omega)) | exact hr | exact hr1 | exact hr2 | exact hr3))
  case k => (repeat (with_reducible first | apply Kept.alloc | apply Kept.drewN | apply Kept.drew | apply Kept.nb | apply Kept.g | apply Kept.bs | apply Kept.ck | apply Kept.bk | apply Kept.tm | apply Kept.wa | apply Kept.po | apply Kept.up | apply Kept.re | apply Kept.me | refine Kept.setCell ?_ (Or.inr (Nat.le_refl _)) _ | refine Kept.setCell ?_ (Or.inr (by omega)) _ | exact k1 | exact k2 | exact k3 | exact Kept.refl _ _))

theorem cyc_world (w : World) (g : Nat) : ((w.setCell ⟨g, 8, none⟩ (.bool false)).alloc zc).heap[w.heap.size]? = some zc := by
  have e := heap_at (w.setCell ⟨g, 8, none⟩ (.bool false)) zc
  have e2 : (w.setCell ⟨g, 8, none⟩ (.bool false)).heap.size = w.heap.size := by simp [World.setCell]
  rw [e2] at e
  exact e

/-- What a callee leaves of the result's variable. -/
theorem Went.var {l : XL} {st st0 : St} {ex ex0 : Ext} {w W w1 : World} (hr : XRep l st0 ex0 w) (hh : W.heap[w.heap.size]? = some zc) (hk : Kept l.own w W) (h : Went l st ex W w1) :
    w1.heap[w.heap.size]? = some zc ∧ (∃ l', Grew l l' w ∧ XRep l' st ex w1 ∧ Kept l.own w w1 ∧ ¬ l'.own w.heap.size) := by
  obtain ⟨l', g, r, k⟩ := h
  have hlt := (Array.getElem?_eq_some_iff.1 hh).1
  refine ⟨(k.block w.heap.size hlt (hr.fresh _ (Nat.le_refl _))).trans hh, l', g.later hk.size, r, hk.trans k, fun x => ?_⟩
  rcases g.own x with y | y
  · exact hr.fresh _ (Nat.le_refl _) y
  · omega

set_option maxRecDepth 100000 in
set_option maxHeartbeats 1000000 in
theorem zCycle_fetch_false {l : XL} {st S : St} {ex E : Ext} {w : World} (hr : XRep l st ex w) (hw : ex.wait = false) (hp : ex.ph = 0) (k a d : Int) (hK : Calls Tryz.prog 87 #[.pointer (some ⟨l.g, 0, none⟩), .iface 133 (.slice (some ⟨l.bs, 0, none⟩) 7 7)] ((w.setCell ⟨l.g, 8, none⟩ (.bool false)).alloc zc) fun e w' => e = .returned (.agg #[.int .i64 k, .int .i64 a, .int .u8 d, .int .u8 0]) ∧ Went l S E ((w.setCell ⟨l.g, 8, none⟩ (.bool false)).alloc zc) w') :
    Calls Tryz.prog 73 #[.pointer (some ⟨l.g, 0, none⟩), .iface 133 (.slice (some ⟨l.bs, 0, none⟩) 7 7), .bool false] w fun e w' => e = .returned (.agg #[.int .i64 k, .int .i64 a, .int .u8 d, .int .u8 0]) ∧ Went l S E w w' := by
  have c1 := hr.c_wait
  rw [hw] at c1
  have c2 := hr.c_ph
  rw [hp] at c2
  have f1 := hr.f_wait
  have hgl := hr.g_q
  have hnot : ∀ (x : Bool) (w : World), (Op.unary .not (.bool x)).run Tryz.prog w = .ok (.bool (!x)) w := fun _ _ => rfl
  have hh := cyc_world w l.g
  have k0 : Kept l.own w ((w.setCell ⟨l.g, 8, none⟩ (.bool false)).alloc zc) := ((Kept.refl _ w).g _ _).alloc _
  have HK : Hid _ := hK
  clear hK hp hw
  go_enter Tryz.func73, Tryz.ntmps73
  go_wp2_with fail
  refine Calls.mono HK.out ?_
  rintro e w1 ⟨rfl, went⟩
  obtain ⟨hzc, l', gl, rl, kl, hno⟩ := Went.var hr hh k0 went
  obtain ⟨⟨x0, x1, x2, x3⟩, ⟨y0, y1, y2, y3⟩, hz3⟩ := zc_kept hzc (Kept.refl _ _)
  clear went
  go_wp2
  refine bodyPost_ret (v := .agg #[.int .i64 k, .int .i64 a, .int .u8 d, .int .u8 0]) (by simp [results, Tryz.results73, go_sem, x0, x1, x2, x3]) rfl ⟨rfl, l', gl, ?r, ?k⟩
  case r => repeat (with_reducible first | apply XRep.drew | apply XRep.drewN | apply XRep.alloc | refine XRep.other ?_ hno _ | exact rl)
  case k =>
    have k3 := kl
    (repeat (with_reducible first | apply Kept.alloc | apply Kept.drewN | apply Kept.drew | apply Kept.nb | apply Kept.g | apply Kept.bs | apply Kept.ck | apply Kept.bk | apply Kept.tm | apply Kept.wa | apply Kept.po | apply Kept.up | apply Kept.re | apply Kept.me | refine Kept.setCell ?_ (Or.inr (Nat.le_refl _)) _ | refine Kept.setCell ?_ (Or.inr (by omega)) _ | exact k1 | exact k2 | exact k3 | exact Kept.refl _ _))

set_option maxRecDepth 100000 in
set_option maxHeartbeats 1000000 in
theorem zCycle_fetch_true {l : XL} {st S : St} {ex E : Ext} {w : World} (hr : XRep l st ex w) (hp : ex.ph = 0) (k a d : Int) (hK : Calls Tryz.prog 87 #[.pointer (some ⟨l.g, 0, none⟩), .iface 133 (.slice (some ⟨l.bs, 0, none⟩) 7 7)] ((w.setCell ⟨l.g, 8, none⟩ (.bool false)).alloc zc) fun e w' => e = .returned (.agg #[.int .i64 k, .int .i64 a, .int .u8 d, .int .u8 0]) ∧ Went l S E ((w.setCell ⟨l.g, 8, none⟩ (.bool false)).alloc zc) w') :
    Calls Tryz.prog 73 #[.pointer (some ⟨l.g, 0, none⟩), .iface 133 (.slice (some ⟨l.bs, 0, none⟩) 7 7), .bool true] w fun e w' => e = .returned (.agg #[.int .i64 k, .int .i64 a, .int .u8 d, .int .u8 0]) ∧ Went l S E w w' := by
  have c1 := hr.c_wait
  have c2 := hr.c_ph
  rw [hp] at c2
  have f1 := hr.f_wait
  have hgl := hr.g_q
  have hnot : ∀ (x : Bool) (w : World), (Op.unary .not (.bool x)).run Tryz.prog w = .ok (.bool (!x)) w := fun _ _ => rfl
  have hh := cyc_world w l.g
  have k0 : Kept l.own w ((w.setCell ⟨l.g, 8, none⟩ (.bool false)).alloc zc) := ((Kept.refl _ w).g _ _).alloc _
  have HK : Hid _ := hK
  clear hK hp
  cases hwt : ex.wait
  · rw [hwt] at c1
    clear hwt
    go_enter Tryz.func73, Tryz.ntmps73
    go_wp2_with fail
    refine Calls.mono HK.out ?_
    rintro e w1 ⟨rfl, went⟩
    obtain ⟨hzc, l', gl, rl, kl, hno⟩ := Went.var hr hh k0 went
    obtain ⟨⟨x0, x1, x2, x3⟩, ⟨y0, y1, y2, y3⟩, hz3⟩ := zc_kept hzc (Kept.refl _ _)
    clear went
    go_wp2
    refine bodyPost_ret (v := .agg #[.int .i64 k, .int .i64 a, .int .u8 d, .int .u8 0]) (by simp [results, Tryz.results73, go_sem, x0, x1, x2, x3]) rfl ⟨rfl, l', gl, ?r, ?k⟩
    case r => repeat (with_reducible first | apply XRep.drew | apply XRep.drewN | apply XRep.alloc | refine XRep.other ?_ hno _ | exact rl)
    case k =>
      have k3 := kl
      (repeat (with_reducible first | apply Kept.alloc | apply Kept.drewN | apply Kept.drew | apply Kept.nb | apply Kept.g | apply Kept.bs | apply Kept.ck | apply Kept.bk | apply Kept.tm | apply Kept.wa | apply Kept.po | apply Kept.up | apply Kept.re | apply Kept.me | refine Kept.setCell ?_ (Or.inr (Nat.le_refl _)) _ | refine Kept.setCell ?_ (Or.inr (by omega)) _ | exact k1 | exact k2 | exact k3 | exact Kept.refl _ _))
  · rw [hwt] at c1
    clear hwt
    go_enter Tryz.func73, Tryz.ntmps73
    go_wp2_with fail
    refine Calls.mono HK.out ?_
    rintro e w1 ⟨rfl, went⟩
    obtain ⟨hzc, l', gl, rl, kl, hno⟩ := Went.var hr hh k0 went
    obtain ⟨⟨x0, x1, x2, x3⟩, ⟨y0, y1, y2, y3⟩, hz3⟩ := zc_kept hzc (Kept.refl _ _)
    clear went
    go_wp2
    refine bodyPost_ret (v := .agg #[.int .i64 k, .int .i64 a, .int .u8 d, .int .u8 0]) (by simp [results, Tryz.results73, go_sem, x0, x1, x2, x3]) rfl ⟨rfl, l', gl, ?r, ?k⟩
    case r => repeat (with_reducible first | apply XRep.drew | apply XRep.drewN | apply XRep.alloc | refine XRep.other ?_ hno _ | exact rl)
    case k =>
      have k3 := kl
      (repeat (with_reducible first | apply Kept.alloc | apply Kept.drewN | apply Kept.drew | apply Kept.nb | apply Kept.g | apply Kept.bs | apply Kept.ck | apply Kept.bk | apply Kept.tm | apply Kept.wa | apply Kept.po | apply Kept.up | apply Kept.re | apply Kept.me | refine Kept.setCell ?_ (Or.inr (Nat.le_refl _)) _ | refine Kept.setCell ?_ (Or.inr (by omega)) _ | exact k1 | exact k2 | exact k3 | exact Kept.refl _ _))

set_option maxRecDepth 100000 in
set_option maxHeartbeats 1000000 in
theorem zCycle_operand_false {l : XL} {st S : St} {ex E : Ext} {w : World} (hr : XRep l st ex w) (hw : ex.wait = false) (hp : ex.ph = 1) (k a d : Int) (hK : Calls Tryz.prog 85 #[.pointer (some ⟨l.g, 0, none⟩), .iface 133 (.slice (some ⟨l.bs, 0, none⟩) 7 7)] ((w.setCell ⟨l.g, 8, none⟩ (.bool false)).alloc zc) fun e w' => e = .returned (.agg #[.int .i64 k, .int .i64 a, .int .u8 d, .int .u8 0]) ∧ Went l S E ((w.setCell ⟨l.g, 8, none⟩ (.bool false)).alloc zc) w') :
    Calls Tryz.prog 73 #[.pointer (some ⟨l.g, 0, none⟩), .iface 133 (.slice (some ⟨l.bs, 0, none⟩) 7 7), .bool false] w fun e w' => e = .returned (.agg #[.int .i64 k, .int .i64 a, .int .u8 d, .int .u8 0]) ∧ Went l S E w w' := by
  have c1 := hr.c_wait
  rw [hw] at c1
  have c2 := hr.c_ph
  rw [hp] at c2
  have f1 := hr.f_wait
  have hgl := hr.g_q
  have hnot : ∀ (x : Bool) (w : World), (Op.unary .not (.bool x)).run Tryz.prog w = .ok (.bool (!x)) w := fun _ _ => rfl
  have hh := cyc_world w l.g
  have k0 : Kept l.own w ((w.setCell ⟨l.g, 8, none⟩ (.bool false)).alloc zc) := ((Kept.refl _ w).g _ _).alloc _
  have HK : Hid _ := hK
  clear hK hp hw
  go_enter Tryz.func73, Tryz.ntmps73
  go_wp2_with fail
  refine Calls.mono HK.out ?_
  rintro e w1 ⟨rfl, went⟩
  obtain ⟨hzc, l', gl, rl, kl, hno⟩ := Went.var hr hh k0 went
  obtain ⟨⟨x0, x1, x2, x3⟩, ⟨y0, y1, y2, y3⟩, hz3⟩ := zc_kept hzc (Kept.refl _ _)
  clear went
  go_wp2
  refine bodyPost_ret (v := .agg #[.int .i64 k, .int .i64 a, .int .u8 d, .int .u8 0]) (by simp [results, Tryz.results73, go_sem, x0, x1, x2, x3]) rfl ⟨rfl, l', gl, ?r, ?k⟩
  case r => repeat (with_reducible first | apply XRep.drew | apply XRep.drewN | apply XRep.alloc | refine XRep.other ?_ hno _ | exact rl)
  case k =>
    have k3 := kl
    (repeat (with_reducible first | apply Kept.alloc | apply Kept.drewN | apply Kept.drew | apply Kept.nb | apply Kept.g | apply Kept.bs | apply Kept.ck | apply Kept.bk | apply Kept.tm | apply Kept.wa | apply Kept.po | apply Kept.up | apply Kept.re | apply Kept.me | refine Kept.setCell ?_ (Or.inr (Nat.le_refl _)) _ | refine Kept.setCell ?_ (Or.inr (by omega)) _ | exact k1 | exact k2 | exact k3 | exact Kept.refl _ _))

set_option maxRecDepth 100000 in
set_option maxHeartbeats 1000000 in
theorem zCycle_operand_true {l : XL} {st S : St} {ex E : Ext} {w : World} (hr : XRep l st ex w) (hp : ex.ph = 1) (k a d : Int) (hK : Calls Tryz.prog 85 #[.pointer (some ⟨l.g, 0, none⟩), .iface 133 (.slice (some ⟨l.bs, 0, none⟩) 7 7)] ((w.setCell ⟨l.g, 8, none⟩ (.bool false)).alloc zc) fun e w' => e = .returned (.agg #[.int .i64 k, .int .i64 a, .int .u8 d, .int .u8 0]) ∧ Went l S E ((w.setCell ⟨l.g, 8, none⟩ (.bool false)).alloc zc) w') :
    Calls Tryz.prog 73 #[.pointer (some ⟨l.g, 0, none⟩), .iface 133 (.slice (some ⟨l.bs, 0, none⟩) 7 7), .bool true] w fun e w' => e = .returned (.agg #[.int .i64 k, .int .i64 a, .int .u8 d, .int .u8 0]) ∧ Went l S E w w' := by
  have c1 := hr.c_wait
  have c2 := hr.c_ph
  rw [hp] at c2
  have f1 := hr.f_wait
  have hgl := hr.g_q
  have hnot : ∀ (x : Bool) (w : World), (Op.unary .not (.bool x)).run Tryz.prog w = .ok (.bool (!x)) w := fun _ _ => rfl
  have hh := cyc_world w l.g
  have k0 : Kept l.own w ((w.setCell ⟨l.g, 8, none⟩ (.bool false)).alloc zc) := ((Kept.refl _ w).g _ _).alloc _
  have HK : Hid _ := hK
  clear hK hp
  cases hwt : ex.wait
  · rw [hwt] at c1
    clear hwt
    go_enter Tryz.func73, Tryz.ntmps73
    go_wp2_with fail
    refine Calls.mono HK.out ?_
    rintro e w1 ⟨rfl, went⟩
    obtain ⟨hzc, l', gl, rl, kl, hno⟩ := Went.var hr hh k0 went
    obtain ⟨⟨x0, x1, x2, x3⟩, ⟨y0, y1, y2, y3⟩, hz3⟩ := zc_kept hzc (Kept.refl _ _)
    clear went
    go_wp2
    refine bodyPost_ret (v := .agg #[.int .i64 k, .int .i64 a, .int .u8 d, .int .u8 0]) (by simp [results, Tryz.results73, go_sem, x0, x1, x2, x3]) rfl ⟨rfl, l', gl, ?r, ?k⟩
    case r => repeat (with_reducible first | apply XRep.drew | apply XRep.drewN | apply XRep.alloc | refine XRep.other ?_ hno _ | exact rl)
    case k =>
      have k3 := kl
      (repeat (with_reducible first | apply Kept.alloc | apply Kept.drewN | apply Kept.drew | apply Kept.nb | apply Kept.g | apply Kept.bs | apply Kept.ck | apply Kept.bk | apply Kept.tm | apply Kept.wa | apply Kept.po | apply Kept.up | apply Kept.re | apply Kept.me | refine Kept.setCell ?_ (Or.inr (Nat.le_refl _)) _ | refine Kept.setCell ?_ (Or.inr (by omega)) _ | exact k1 | exact k2 | exact k3 | exact Kept.refl _ _))
  · rw [hwt] at c1
    clear hwt
    go_enter Tryz.func73, Tryz.ntmps73
    go_wp2_with fail
    refine Calls.mono HK.out ?_
    rintro e w1 ⟨rfl, went⟩
    obtain ⟨hzc, l', gl, rl, kl, hno⟩ := Went.var hr hh k0 went
    obtain ⟨⟨x0, x1, x2, x3⟩, ⟨y0, y1, y2, y3⟩, hz3⟩ := zc_kept hzc (Kept.refl _ _)
    clear went
    go_wp2
    refine bodyPost_ret (v := .agg #[.int .i64 k, .int .i64 a, .int .u8 d, .int .u8 0]) (by simp [results, Tryz.results73, go_sem, x0, x1, x2, x3]) rfl ⟨rfl, l', gl, ?r, ?k⟩
    case r => repeat (with_reducible first | apply XRep.drew | apply XRep.drewN | apply XRep.alloc | refine XRep.other ?_ hno _ | exact rl)
    case k =>
      have k3 := kl
      (repeat (with_reducible first | apply Kept.alloc | apply Kept.drewN | apply Kept.drew | apply Kept.nb | apply Kept.g | apply Kept.bs | apply Kept.ck | apply Kept.bk | apply Kept.tm | apply Kept.wa | apply Kept.po | apply Kept.up | apply Kept.re | apply Kept.me | refine Kept.setCell ?_ (Or.inr (Nat.le_refl _)) _ | refine Kept.setCell ?_ (Or.inr (by omega)) _ | exact k1 | exact k2 | exact k3 | exact Kept.refl _ _))

set_option maxRecDepth 100000 in
set_option maxHeartbeats 1000000 in
theorem zCycle_access_false {l : XL} {st S : St} {ex E : Ext} {w : World} (hr : XRep l st ex w) (hw : ex.wait = false) (hp : ex.ph = 2) (k a d : Int) (hK : Calls Tryz.prog 86 #[.pointer (some ⟨l.g, 0, none⟩), .iface 133 (.slice (some ⟨l.bs, 0, none⟩) 7 7)] ((w.setCell ⟨l.g, 8, none⟩ (.bool false)).alloc zc) fun e w' => e = .returned (.agg #[.int .i64 k, .int .i64 a, .int .u8 d, .int .u8 0]) ∧ Went l S E ((w.setCell ⟨l.g, 8, none⟩ (.bool false)).alloc zc) w') :
    Calls Tryz.prog 73 #[.pointer (some ⟨l.g, 0, none⟩), .iface 133 (.slice (some ⟨l.bs, 0, none⟩) 7 7), .bool false] w fun e w' => e = .returned (.agg #[.int .i64 k, .int .i64 a, .int .u8 d, .int .u8 0]) ∧ Went l S E w w' := by
  have c1 := hr.c_wait
  rw [hw] at c1
  have c2 := hr.c_ph
  rw [hp] at c2
  have f1 := hr.f_wait
  have hgl := hr.g_q
  have hnot : ∀ (x : Bool) (w : World), (Op.unary .not (.bool x)).run Tryz.prog w = .ok (.bool (!x)) w := fun _ _ => rfl
  have hh := cyc_world w l.g
  have k0 : Kept l.own w ((w.setCell ⟨l.g, 8, none⟩ (.bool false)).alloc zc) := ((Kept.refl _ w).g _ _).alloc _
  have HK : Hid _ := hK
  clear hK hp hw
  go_enter Tryz.func73, Tryz.ntmps73
  go_wp2_with fail
  refine Calls.mono HK.out ?_
  rintro e w1 ⟨rfl, went⟩
  obtain ⟨hzc, l', gl, rl, kl, hno⟩ := Went.var hr hh k0 went
  obtain ⟨⟨x0, x1, x2, x3⟩, ⟨y0, y1, y2, y3⟩, hz3⟩ := zc_kept hzc (Kept.refl _ _)
  clear went
  go_wp2
  refine bodyPost_ret (v := .agg #[.int .i64 k, .int .i64 a, .int .u8 d, .int .u8 0]) (by simp [results, Tryz.results73, go_sem, x0, x1, x2, x3]) rfl ⟨rfl, l', gl, ?r, ?k⟩
  case r => repeat (with_reducible first | apply XRep.drew | apply XRep.drewN | apply XRep.alloc | refine XRep.other ?_ hno _ | exact rl)
  case k =>
    have k3 := kl
    (repeat (with_reducible first | apply Kept.alloc | apply Kept.drewN | apply Kept.drew | apply Kept.nb | apply Kept.g | apply Kept.bs | apply Kept.ck | apply Kept.bk | apply Kept.tm | apply Kept.wa | apply Kept.po | apply Kept.up | apply Kept.re | apply Kept.me | refine Kept.setCell ?_ (Or.inr (Nat.le_refl _)) _ | refine Kept.setCell ?_ (Or.inr (by omega)) _ | exact k1 | exact k2 | exact k3 | exact Kept.refl _ _))

set_option maxRecDepth 100000 in
set_option maxHeartbeats 1000000 in
theorem zCycle_access_true {l : XL} {st S : St} {ex E : Ext} {w : World} (hr : XRep l st ex w) (hp : ex.ph = 2) (k a d : Int) (hK : Calls Tryz.prog 86 #[.pointer (some ⟨l.g, 0, none⟩), .iface 133 (.slice (some ⟨l.bs, 0, none⟩) 7 7)] ((w.setCell ⟨l.g, 8, none⟩ (.bool false)).alloc zc) fun e w' => e = .returned (.agg #[.int .i64 k, .int .i64 a, .int .u8 d, .int .u8 0]) ∧ Went l S E ((w.setCell ⟨l.g, 8, none⟩ (.bool false)).alloc zc) w') :
    Calls Tryz.prog 73 #[.pointer (some ⟨l.g, 0, none⟩), .iface 133 (.slice (some ⟨l.bs, 0, none⟩) 7 7), .bool true] w fun e w' => e = .returned (.agg #[.int .i64 k, .int .i64 a, .int .u8 d, .int .u8 0]) ∧ Went l S E w w' := by
  have c1 := hr.c_wait
  have c2 := hr.c_ph
  rw [hp] at c2
  have f1 := hr.f_wait
  have hgl := hr.g_q
  have hnot : ∀ (x : Bool) (w : World), (Op.unary .not (.bool x)).run Tryz.prog w = .ok (.bool (!x)) w := fun _ _ => rfl
  have hh := cyc_world w l.g
  have k0 : Kept l.own w ((w.setCell ⟨l.g, 8, none⟩ (.bool false)).alloc zc) := ((Kept.refl _ w).g _ _).alloc _
  have HK : Hid _ := hK
  clear hK hp
  cases hwt : ex.wait
  · rw [hwt] at c1
    clear hwt
    go_enter Tryz.func73, Tryz.ntmps73
    go_wp2_with fail
    refine Calls.mono HK.out ?_
    rintro e w1 ⟨rfl, went⟩
    obtain ⟨hzc, l', gl, rl, kl, hno⟩ := Went.var hr hh k0 went
    obtain ⟨⟨x0, x1, x2, x3⟩, ⟨y0, y1, y2, y3⟩, hz3⟩ := zc_kept hzc (Kept.refl _ _)
    clear went
    go_wp2
    refine bodyPost_ret (v := .agg #[.int .i64 k, .int .i64 a, .int .u8 d, .int .u8 0]) (by simp [results, Tryz.results73, go_sem, x0, x1, x2, x3]) rfl ⟨rfl, l', gl, ?r, ?k⟩
    case r => repeat (with_reducible first | apply XRep.drew | apply XRep.drewN | apply XRep.alloc | refine XRep.other ?_ hno _ | exact rl)
    case k =>
      have k3 := kl
      (repeat (with_reducible first | apply Kept.alloc | apply Kept.drewN | apply Kept.drew | apply Kept.nb | apply Kept.g | apply Kept.bs | apply Kept.ck | apply Kept.bk | apply Kept.tm | apply Kept.wa | apply Kept.po | apply Kept.up | apply Kept.re | apply Kept.me | refine Kept.setCell ?_ (Or.inr (Nat.le_refl _)) _ | refine Kept.setCell ?_ (Or.inr (by omega)) _ | exact k1 | exact k2 | exact k3 | exact Kept.refl _ _))
  · rw [hwt] at c1
    clear hwt
    go_enter Tryz.func73, Tryz.ntmps73
    go_wp2_with fail
    refine Calls.mono HK.out ?_
    rintro e w1 ⟨rfl, went⟩
    obtain ⟨hzc, l', gl, rl, kl, hno⟩ := Went.var hr hh k0 went
    obtain ⟨⟨x0, x1, x2, x3⟩, ⟨y0, y1, y2, y3⟩, hz3⟩ := zc_kept hzc (Kept.refl _ _)
    clear went
    go_wp2
    refine bodyPost_ret (v := .agg #[.int .i64 k, .int .i64 a, .int .u8 d, .int .u8 0]) (by simp [results, Tryz.results73, go_sem, x0, x1, x2, x3]) rfl ⟨rfl, l', gl, ?r, ?k⟩
    case r => repeat (with_reducible first | apply XRep.drew | apply XRep.drewN | apply XRep.alloc | refine XRep.other ?_ hno _ | exact rl)
    case k =>
      have k3 := kl
      (repeat (with_reducible first | apply Kept.alloc | apply Kept.drewN | apply Kept.drew | apply Kept.nb | apply Kept.g | apply Kept.bs | apply Kept.ck | apply Kept.bk | apply Kept.tm | apply Kept.wa | apply Kept.po | apply Kept.up | apply Kept.re | apply Kept.me | refine Kept.setCell ?_ (Or.inr (Nat.le_refl _)) _ | refine Kept.setCell ?_ (Or.inr (by omega)) _ | exact k1 | exact k2 | exact k3 | exact Kept.refl _ _))

set_option maxRecDepth 100000 in
set_option maxHeartbeats 1000000 in
theorem zCycle_trap_false {l : XL} {st S : St} {ex E : Ext} {w : World} (hr : XRep l st ex w) (hw : ex.wait = false) (hp : ex.ph = 0) (a d : Int) (hK : Calls Tryz.prog 87 #[.pointer (some ⟨l.g, 0, none⟩), .iface 133 (.slice (some ⟨l.bs, 0, none⟩) 7 7)] ((w.setCell ⟨l.g, 8, none⟩ (.bool false)).alloc zc) fun e w' => e = .panicked [{ v := .iface 150 (.agg #[.int .i64 3, .int .i64 a, .int .u8 d, .int .u8 0]), recovered := false }] ∧ Went l S E ((w.setCell ⟨l.g, 8, none⟩ (.bool false)).alloc zc) w') :
    Calls Tryz.prog 73 #[.pointer (some ⟨l.g, 0, none⟩), .iface 133 (.slice (some ⟨l.bs, 0, none⟩) 7 7), .bool false] w fun e w' => e = .panicked [{ v := .iface 150 (.agg #[.int .i64 3, .int .i64 a, .int .u8 d, .int .u8 0]), recovered := false }] ∧ Went l S E w w' := by
  have c1 := hr.c_wait
  rw [hw] at c1
  have c2 := hr.c_ph
  rw [hp] at c2
  have f1 := hr.f_wait
  have hgl := hr.g_q
  have hnot : ∀ (x : Bool) (w : World), (Op.unary .not (.bool x)).run Tryz.prog w = .ok (.bool (!x)) w := fun _ _ => rfl
  have k0 : Kept l.own w ((w.setCell ⟨l.g, 8, none⟩ (.bool false)).alloc zc) := ((Kept.refl _ w).g _ _).alloc _
  have HK : Hid _ := hK
  clear hK hp hw
  go_enter Tryz.func73, Tryz.ntmps73
  go_wp2_with fail
  refine Calls.mono HK.out ?_
  rintro e w1 ⟨rfl, went⟩
  have went2 := Went.before k0 went
  go_wp2
  exact ⟨rfl, rfl, went2⟩

set_option maxRecDepth 100000 in
set_option maxHeartbeats 1000000 in
theorem zCycle_trap_true {l : XL} {st S : St} {ex E : Ext} {w : World} (hr : XRep l st ex w) (hp : ex.ph = 0) (a d : Int) (hK : Calls Tryz.prog 87 #[.pointer (some ⟨l.g, 0, none⟩), .iface 133 (.slice (some ⟨l.bs, 0, none⟩) 7 7)] ((w.setCell ⟨l.g, 8, none⟩ (.bool false)).alloc zc) fun e w' => e = .panicked [{ v := .iface 150 (.agg #[.int .i64 3, .int .i64 a, .int .u8 d, .int .u8 0]), recovered := false }] ∧ Went l S E ((w.setCell ⟨l.g, 8, none⟩ (.bool false)).alloc zc) w') :
    Calls Tryz.prog 73 #[.pointer (some ⟨l.g, 0, none⟩), .iface 133 (.slice (some ⟨l.bs, 0, none⟩) 7 7), .bool true] w fun e w' => e = .panicked [{ v := .iface 150 (.agg #[.int .i64 3, .int .i64 a, .int .u8 d, .int .u8 0]), recovered := false }] ∧ Went l S E w w' := by
  have c1 := hr.c_wait
  have c2 := hr.c_ph
  rw [hp] at c2
  have f1 := hr.f_wait
  have hgl := hr.g_q
  have hnot : ∀ (x : Bool) (w : World), (Op.unary .not (.bool x)).run Tryz.prog w = .ok (.bool (!x)) w := fun _ _ => rfl
  have k0 : Kept l.own w ((w.setCell ⟨l.g, 8, none⟩ (.bool false)).alloc zc) := ((Kept.refl _ w).g _ _).alloc _
  have HK : Hid _ := hK
  clear hK hp
  cases hwt : ex.wait
  · rw [hwt] at c1
    clear hwt
    go_enter Tryz.func73, Tryz.ntmps73
    go_wp2_with fail
    refine Calls.mono HK.out ?_
    rintro e w1 ⟨rfl, went⟩
    have went2 := Went.before k0 went
    go_wp2
    exact ⟨rfl, rfl, went2⟩
  · rw [hwt] at c1
    clear hwt
    go_enter Tryz.func73, Tryz.ntmps73
    go_wp2_with fail
    refine Calls.mono HK.out ?_
    rintro e w1 ⟨rfl, went⟩
    have went2 := Went.before k0 went
    go_wp2
    exact ⟨rfl, rfl, went2⟩

end Go.Proofs.YtommhbidkoeifaaGreat
