/- Of several texts, one behind the other. -/
import Derived.Test.YtikdbpphbdbdnaaGreatXp
import Derived.Test.YtikdbpphbdbdnaaGreatRelP
/- The program's processor: its cycle, by what the cycle is for. -/
namespace Go.Proofs.YtikdbpphbdbdnaaGreat
open Go.RowKit
set_option linter.unusedVariables false

set_option maxRecDepth 100000 in
set_option maxHeartbeats 1000000 in
theorem zCycle_idle {l : XL} {st : St} {ex : Ext} {w : World} (hr : XRep l st ex w) (hw : ex.wait = true) :
    Calls Tryz.prog 78 #[.pointer (some ⟨l.g, 0, none⟩), .iface 135 (.slice (some ⟨l.bs, 0, none⟩) 7 7), .bool false] w fun e w' => e = .returned (.agg #[.int .i64 2, .int .i64 0, .int .u8 0, .int .u8 0]) ∧ Went l st ex w w' := by
  have c1 := hr.c_wait
  rw [hw] at c1
  have hgl := hr.g_q
  have hnot : ∀ (x : Bool) (w : World), (Op.unary .not (.bool x)).run Tryz.prog w = .ok (.bool (!x)) w := fun _ _ => rfl
  clear hw
  go_enter Tryz.func78, Tryz.ntmps78
  go_wp2
  refine bodyPost_ret (v := .agg #[.int .i64 2, .int .i64 0, .int .u8 0, .int .u8 0]) (by simp [results, Tryz.results78, go_sem]) rfl ⟨rfl, Went.mk ?r ?k⟩
  case r => (repeat (with_reducible first | apply XRep.alloc | apply XRep.drewN | apply XRep.drew | apply XRep.set_a | apply XRep.set_x | apply XRep.set_pc | apply XRep.set_zero | apply XRep.set_carry | apply XRep.set_ph | apply XRep.set_op | apply XRep.set_addr | apply XRep.set_wait | apply XRep.set_down | apply XRep.set_left | apply XRep.set_now | apply XRep.set_s0 | apply XRep.set_s1 | apply XRep.set_bank | apply XRep.set_period | apply XRep.set_next | apply XRep.set_flag | apply XRep.set_fed | apply XRep.set_window | apply XRep.set_taken | apply XRep.set_key | apply XRep.set_early | apply XRep.set_out | apply XRep.set_inp | apply XRep.set_opn | apply XRep.set_place | apply XRep.set_cause | (apply XRep.other; case hb => exact hfr _ (by omega)) | exact hr | exact hr1 | exact hr2 | exact hr3))
  case k => (repeat (with_reducible first | apply Kept.alloc | apply Kept.drewN | apply Kept.drew | apply Kept.nb | apply Kept.g | apply Kept.bs | apply Kept.ck | apply Kept.bk | apply Kept.tm | apply Kept.wa | apply Kept.po | apply Kept.up | apply Kept.re | apply Kept.me | refine Kept.setCell ?_ (Or.inr (Nat.le_refl _)) _ | refine Kept.setCell ?_ (Or.inr (by omega)) _ | exact k1 | exact k2 | exact k3 | exact Kept.refl _ _))

theorem cyc_world (w : World) (g : Nat) : ((w.setCell ⟨g, 8, none⟩ (.bool false)).alloc zc).heap[w.heap.size]? = some zc := by
  have e := heap_at (w.setCell ⟨g, 8, none⟩ (.bool false)) zc
  have e2 : (w.setCell ⟨g, 8, none⟩ (.bool false)).heap.size = w.heap.size := by simp [World.setCell]
  rw [e2] at e
  exact e

/-- What a callee leaves of the result's variable. -/
theorem Went.var {l : XL} {st st0 : St} {ex ex0 : Ext} {w W w1 : World} (hr : XRep l st0 ex0 w) (hh : W.heap[w.heap.size]? = some zc) (hk : Kept l.own w W) (h : Went l st ex W w1) :
    w1.heap[w.heap.size]? = some zc ∧ (∃ l', Grew l l' w ∧ XRep l' st ex w1 ∧ Kept l.own w w1 ∧ ¬ l'.own w.heap.size) := by
  obtain ⟨l', g, r, k⟩ := h
  have hlt := (Array.getElem?_eq_some_iff.1 hh).1
  refine ⟨(k.block w.heap.size hlt (hr.fresh _ (Nat.le_refl _))).trans hh, l', g.later hk.size, r, hk.trans k, fun x => ?_⟩
  rcases g.own x with y | y
  · exact hr.fresh _ (Nat.le_refl _) y
  · omega

set_option maxRecDepth 100000 in
set_option maxHeartbeats 1000000 in
theorem zCycle_fetch_false {l : XL} {st S : St} {ex E : Ext} {w : World} (hr : XRep l st ex w) (hw : ex.wait = false) (hp : ex.ph = 0) (k a d : Int) (hK : Calls Tryz.prog 92 #[.pointer (some ⟨l.g, 0, none⟩), .iface 135 (.slice (some ⟨l.bs, 0, none⟩) 7 7)] ((w.setCell ⟨l.g, 8, none⟩ (.bool false)).alloc zc) fun e w' => e = .returned (.agg #[.int .i64 k, .int .i64 a, .int .u8 d, .int .u8 0]) ∧ Went l S E ((w.setCell ⟨l.g, 8, none⟩ (.bool false)).alloc zc) w') :
    Calls Tryz.prog 78 #[.pointer (some ⟨l.g, 0, none⟩), .iface 135 (.slice (some ⟨l.bs, 0, none⟩) 7 7), .bool false] w fun e w' => e = .returned (.agg #[.int .i64 k, .int .i64 a, .int .u8 d, .int .u8 0]) ∧ Went l S E w w' := by
  have c1 := hr.c_wait
  rw [hw] at c1
  have c2 := hr.c_ph
  rw [hp] at c2
  have f1 := hr.f_wait
  have hgl := hr.g_q
  have hnot : ∀ (x : Bool) (w : World), (Op.unary .not (.bool x)).run Tryz.prog w = .ok (.bool (!x)) w := fun _ _ => rfl
  have hh := cyc_world w l.g
  have k0 : Kept l.own w ((w.setCell ⟨l.g, 8, none⟩ (.bool false)).alloc zc) := ((Kept.refl _ w).g _ _).alloc _
  have HK : Hid _ := hK
  clear hK hp hw
  go_enter Tryz.func78, Tryz.ntmps78
  go_wp2_with fail
  refine Calls.mono HK.out ?_
  rintro e w1 ⟨rfl, went⟩
  obtain ⟨hzc, l', gl, rl, kl, hno⟩ := Went.var hr hh k0 went
  obtain ⟨⟨x0, x1, x2, x3⟩, ⟨y0, y1, y2, y3⟩, hz3⟩ := zc_kept hzc (Kept.refl _ _)
  clear went
  go_wp2
  refine bodyPost_ret (v := .agg #[.int .i64 k, .int .i64 a, .int .u8 d, .int .u8 0]) (by simp [results, Tryz.results78, go_sem, x0, x1, x2, x3]) rfl ⟨rfl, l', gl, ?r, ?k⟩
  case r => repeat (with_reducible first | apply XRep.drew | apply XRep.drewN | apply XRep.alloc | refine XRep.other ?_ hno _ | exact rl)
  case k =>
    have k3 := kl
    (repeat (with_reducible first | apply Kept.alloc | apply Kept.drewN | apply Kept.drew | apply Kept.nb | apply Kept.g | apply Kept.bs | apply Kept.ck | apply Kept.bk | apply Kept.tm | apply Kept.wa | apply Kept.po | apply Kept.up | apply Kept.re | apply Kept.me | refine Kept.setCell ?_ (Or.inr (Nat.le_refl _)) _ | refine Kept.setCell ?_ (Or.inr (by omega)) _ | exact k1 | exact k2 | exact k3 | exact Kept.refl _ _))

set_option maxRecDepth 100000 in
set_option maxHeartbeats 1000000 in
theorem zCycle_fetch_true {l : XL} {st S : St} {ex E : Ext} {w : World} (hr : XRep l st ex w) (hp : ex.ph = 0) (k a d : Int) (hK : Calls Tryz.prog 92 #[.pointer (some ⟨l.g, 0, none⟩), .iface 135 (.slice (some ⟨l.bs, 0, none⟩) 7 7)] ((w.setCell ⟨l.g, 8, none⟩ (.bool false)).alloc zc) fun e w' => e = .returned (.agg #[.int .i64 k, .int .i64 a, .int .u8 d, .int .u8 0]) ∧ Went l S E ((w.setCell ⟨l.g, 8, none⟩ (.bool false)).alloc zc) w') :
    Calls Tryz.prog 78 #[.pointer (some ⟨l.g, 0, none⟩), .iface 135 (.slice (some ⟨l.bs, 0, none⟩) 7 7), .bool true] w fun e w' => e = .returned (.agg #[.int .i64 k, .int .i64 a, .int .u8 d, .int .u8 0]) ∧ Went l S E w w' := by
  have c1 := hr.c_wait
  have c2 := hr.c_ph
  rw [hp] at c2
  have f1 := hr.f_wait
  have hgl := hr.g_q
  have hnot : ∀ (x : Bool) (w : World), (Op.unary .not (.bool x)).run Tryz.prog w = .ok (.bool (!x)) w := fun _ _ => rfl
  have hh := cyc_world w l.g
  have k0 : Kept l.own w ((w.setCell ⟨l.g, 8, none⟩ (.bool false)).alloc zc) := ((Kept.refl _ w).g _ _).alloc _
  have HK : Hid _ := hK
  clear hK hp
  cases hwt : ex.wait
  · rw [hwt] at c1
    clear hwt
    go_enter Tryz.func78, Tryz.ntmps78
    go_wp2_with fail
    refine Calls.mono HK.out ?_
    rintro e w1 ⟨rfl, went⟩
    obtain ⟨hzc, l', gl, rl, kl, hno⟩ := Went.var hr hh k0 went
    obtain ⟨⟨x0, x1, x2, x3⟩, ⟨y0, y1, y2, y3⟩, hz3⟩ := zc_kept hzc (Kept.refl _ _)
    clear went
    go_wp2
    refine bodyPost_ret (v := .agg #[.int .i64 k, .int .i64 a, .int .u8 d, .int .u8 0]) (by simp [results, Tryz.results78, go_sem, x0, x1, x2, x3]) rfl ⟨rfl, l', gl, ?r, ?k⟩
    case r => repeat (with_reducible first | apply XRep.drew | apply XRep.drewN | apply XRep.alloc | refine XRep.other ?_ hno _ | exact rl)
    case k =>
      have k3 := kl
      (repeat (with_reducible first | apply Kept.alloc | apply Kept.drewN | apply Kept.drew | apply Kept.nb | apply Kept.g | apply Kept.bs | apply Kept.ck | apply Kept.bk | apply Kept.tm | apply Kept.wa | apply Kept.po | apply Kept.up | apply Kept.re | apply Kept.me | refine Kept.setCell ?_ (Or.inr (Nat.le_refl _)) _ | refine Kept.setCell ?_ (Or.inr (by omega)) _ | exact k1 | exact k2 | exact k3 | exact Kept.refl _ _))
  · rw [hwt] at c1
    clear hwt
    go_enter Tryz.func78, Tryz.ntmps78
    go_wp2_with fail
    refine Calls.mono HK.out ?_
    rintro e w1 ⟨rfl, went⟩
    obtain ⟨hzc, l', gl, rl, kl, hno⟩ := Went.var hr hh k0 went
    obtain ⟨⟨x0, x1, x2, x3⟩, ⟨y0, y1, y2, y3⟩, hz3⟩ := zc_kept hzc (Kept.refl _ _)
    clear went
    go_wp2
    refine bodyPost_ret (v := .agg #[.int .i64 k, .int .i64 a, .int .u8 d, .int .u8 0]) (by simp [results, Tryz.results78, go_sem, x0, x1, x2, x3]) rfl ⟨rfl, l', gl, ?r, ?k⟩
    case r => repeat (with_reducible first | apply XRep.drew | apply XRep.drewN | apply XRep.alloc | refine XRep.other ?_ hno _ | exact rl)
    case k =>
      have k3 := kl
      (repeat (with_reducible first | apply Kept.alloc | apply Kept.drewN | apply Kept.drew | apply Kept.nb | apply Kept.g | apply Kept.bs | apply Kept.ck | apply Kept.bk | apply Kept.tm | apply Kept.wa | apply Kept.po | apply Kept.up | apply Kept.re | apply Kept.me | refine Kept.setCell ?_ (Or.inr (Nat.le_refl _)) _ | refine Kept.setCell ?_ (Or.inr (by omega)) _ | exact k1 | exact k2 | exact k3 | exact Kept.refl _ _))

set_option maxRecDepth 100000 in
set_option maxHeartbeats 1000000 in
theorem zCycle_operand_false {l : XL} {st S : St} {ex E : Ext} {w : World} (hr : XRep l st ex w) (hw : ex.wait = false) (hp : ex.ph = 1) (k a d : Int) (hK : Calls Tryz.prog 90 #[.pointer (some ⟨l.g, 0, none⟩), .iface 135 (.slice (some ⟨l.bs, 0, none⟩) 7 7)] ((w.setCell ⟨l.g, 8, none⟩ (.bool false)).alloc zc) fun e w' => e = .returned (.agg #[.int .i64 k, .int .i64 a, .int .u8 d, .int .u8 0]) ∧ Went l S E ((w.setCell ⟨l.g, 8, none⟩ (.bool false)).alloc zc) w') :
    Calls Tryz.prog 78 #[.pointer (some ⟨l.g, 0, none⟩), .iface 135 (.slice (some ⟨l.bs, 0, none⟩) 7 7), .bool false] w fun e w' => e = .returned (.agg #[.int .i64 k, .int .i64 a, .int .u8 d, .int .u8 0]) ∧ Went l S E w w' := by
  have c1 := hr.c_wait
  rw [hw] at c1
  have c2 := hr.c_ph
  rw [hp] at c2
  have f1 := hr.f_wait
  have hgl := hr.g_q
  have hnot : ∀ (x : Bool) (w : World), (Op.unary .not (.bool x)).run Tryz.prog w = .ok (.bool (!x)) w := fun _ _ => rfl
  have hh := cyc_world w l.g
  have k0 : Kept l.own w ((w.setCell ⟨l.g, 8, none⟩ (.bool false)).alloc zc) := ((Kept.refl _ w).g _ _).alloc _
  have HK : Hid _ := hK
  clear hK hp hw
  go_enter Tryz.func78, Tryz.ntmps78
  go_wp2_with fail
  refine Calls.mono HK.out ?_
  rintro e w1 ⟨rfl, went⟩
  obtain ⟨hzc, l', gl, rl, kl, hno⟩ := Went.var hr hh k0 went
  obtain ⟨⟨x0, x1, x2, x3⟩, ⟨y0, y1, y2, y3⟩, hz3⟩ := zc_kept hzc (Kept.refl _ _)
  clear went
  go_wp2
  refine bodyPost_ret (v := .agg #[.int .i64 k, .int .i64 a, .int .u8 d, .int .u8 0]) (by simp [results, Tryz.results78, go_sem, x0, x1, x2, x3]) rfl ⟨rfl, l', gl, ?r, ?k⟩
  case r => repeat (with_reducible first | apply XRep.drew | apply XRep.drewN | apply XRep.alloc | refine XRep.other ?_ hno _ | exact rl)
  case k =>
    have k3 := kl
    (repeat (with_reducible first | apply Kept.alloc | apply Kept.drewN | apply Kept.drew | apply Kept.nb | apply Kept.g | apply Kept.bs | apply Kept.ck | apply Kept.bk | apply Kept.tm | apply Kept.wa | apply Kept.po | apply Kept.up | apply Kept.re | apply Kept.me | refine Kept.setCell ?_ (Or.inr (Nat.le_refl _)) _ | refine Kept.setCell ?_ (Or.inr (by omega)) _ | exact k1 | exact k2 | exact k3 | exact Kept.refl _ _))

set_option maxRecDepth 100000 in
set_option maxHeartbeats 1000000 in
theorem zCycle_operand_true {l : XL} {st S : St} {ex E : Ext} {w : World} (hr : XRep l st ex w) (hp : ex.ph = 1) (k a d : Int) (hK : Calls Tryz.prog 90 #[.pointer (some ⟨l.g, 0, none⟩), .iface 135 (.slice (some ⟨l.bs, 0, none⟩) 7 7)] ((w.setCell ⟨l.g, 8, none⟩ (.bool false)).alloc zc) fun e w' => e = .returned (.agg #[.int .i64 k, .int .i64 a, .int .u8 d, .int .u8 0]) ∧ Went l S E ((w.setCell ⟨l.g, 8, none⟩ (.bool false)).alloc zc) w') :
    Calls Tryz.prog 78 #[.pointer (some ⟨l.g, 0, none⟩), .iface 135 (.slice (some ⟨l.bs, 0, none⟩) 7 7), .bool true] w fun e w' => e = .returned (.agg #[.int .i64 k, .int .i64 a, .int .u8 d, .int .u8 0]) ∧ Went l S E w w' := by
  have c1 := hr.c_wait
  have c2 := hr.c_ph
  rw [hp] at c2
  have f1 := hr.f_wait
  have hgl := hr.g_q
  have hnot : ∀ (x : Bool) (w : World), (Op.unary .not (.bool x)).run Tryz.prog w = .ok (.bool (!x)) w := fun _ _ => rfl
  have hh := cyc_world w l.g
  have k0 : Kept l.own w ((w.setCell ⟨l.g, 8, none⟩ (.bool false)).alloc zc) := ((Kept.refl _ w).g _ _).alloc _
  have HK : Hid _ := hK
  clear hK hp
  cases hwt : ex.wait
  · rw [hwt] at c1
    clear hwt
    go_enter Tryz.func78, Tryz.ntmps78
    go_wp2_with fail
    refine Calls.mono HK.out ?_
    rintro e w1 ⟨rfl, went⟩
    obtain ⟨hzc, l', gl, rl, kl, hno⟩ := Went.var hr hh k0 went
    obtain ⟨⟨x0, x1, x2, x3⟩, ⟨y0, y1, y2, y3⟩, hz3⟩ := zc_kept hzc (Kept.refl _ _)
    clear went
    go_wp2
    refine bodyPost_ret (v := .agg #[.int .i64 k, .int .i64 a, .int .u8 d, .int .u8 0]) (by simp [results, Tryz.results78, go_sem, x0, x1, x2, x3]) rfl ⟨rfl, l', gl, ?r, ?k⟩
    case r => repeat (with_reducible first | apply XRep.drew | apply XRep.drewN | apply XRep.alloc | refine XRep.other ?_ hno _ | exact rl)
    case k =>
      have k3 := kl
      (repeat (with_reducible first | apply Kept.alloc | apply Kept.drewN | apply Kept.drew | apply Kept.nb | apply Kept.g | apply Kept.bs | apply Kept.ck | apply Kept.bk | apply Kept.tm | apply Kept.wa | apply Kept.po | apply Kept.up | apply Kept.re | apply Kept.me | refine Kept.setCell ?_ (Or.inr (Nat.le_refl _)) _ | refine Kept.setCell ?_ (Or.inr (by omega)) _ | exact k1 | exact k2 | exact k3 | exact Kept.refl _ _))
  · rw [hwt] at c1
    clear hwt
    go_enter Tryz.func78, Tryz.ntmps78
    go_wp2_with fail
    refine Calls.mono HK.out ?_
    rintro e w1 ⟨rfl, went⟩
    obtain ⟨hzc, l', gl, rl, kl, hno⟩ := Went.var hr hh k0 went
    obtain ⟨⟨x0, x1, x2, x3⟩, ⟨y0, y1, y2, y3⟩, hz3⟩ := zc_kept hzc (Kept.refl _ _)
    clear went
    go_wp2
    refine bodyPost_ret (v := .agg #[.int .i64 k, .int .i64 a, .int .u8 d, .int .u8 0]) (by simp [results, Tryz.results78, go_sem, x0, x1, x2, x3]) rfl ⟨rfl, l', gl, ?r, ?k⟩
    case r => repeat (with_reducible first | apply XRep.drew | apply XRep.drewN | apply XRep.alloc | refine XRep.other ?_ hno _ | exact rl)
    case k =>
      have k3 := kl
      (repeat (with_reducible first | apply Kept.alloc | apply Kept.drewN | apply Kept.drew | apply Kept.nb | apply Kept.g | apply Kept.bs | apply Kept.ck | apply Kept.bk | apply Kept.tm | apply Kept.wa | apply Kept.po | apply Kept.up | apply Kept.re | apply Kept.me | refine Kept.setCell ?_ (Or.inr (Nat.le_refl _)) _ | refine Kept.setCell ?_ (Or.inr (by omega)) _ | exact k1 | exact k2 | exact k3 | exact Kept.refl _ _))

set_option maxRecDepth 100000 in
set_option maxHeartbeats 1000000 in
theorem zCycle_access_false {l : XL} {st S : St} {ex E : Ext} {w : World} (hr : XRep l st ex w) (hw : ex.wait = false) (hp : ex.ph = 2) (k a d : Int) (hK : Calls Tryz.prog 91 #[.pointer (some ⟨l.g, 0, none⟩), .iface 135 (.slice (some ⟨l.bs, 0, none⟩) 7 7)] ((w.setCell ⟨l.g, 8, none⟩ (.bool false)).alloc zc) fun e w' => e = .returned (.agg #[.int .i64 k, .int .i64 a, .int .u8 d, .int .u8 0]) ∧ Went l S E ((w.setCell ⟨l.g, 8, none⟩ (.bool false)).alloc zc) w') :
    Calls Tryz.prog 78 #[.pointer (some ⟨l.g, 0, none⟩), .iface 135 (.slice (some ⟨l.bs, 0, none⟩) 7 7), .bool false] w fun e w' => e = .returned (.agg #[.int .i64 k, .int .i64 a, .int .u8 d, .int .u8 0]) ∧ Went l S E w w' := by
  have c1 := hr.c_wait
  rw [hw] at c1
  have c2 := hr.c_ph
  rw [hp] at c2
  have f1 := hr.f_wait
  have hgl := hr.g_q
  have hnot : ∀ (x : Bool) (w : World), (Op.unary .not (.bool x)).run Tryz.prog w = .ok (.bool (!x)) w := fun _ _ => rfl
  have hh := cyc_world w l.g
  have k0 : Kept l.own w ((w.setCell ⟨l.g, 8, none⟩ (.bool false)).alloc zc) := ((Kept.refl _ w).g _ _).alloc _
  have HK : Hid _ := hK
  clear hK hp hw
  go_enter Tryz.func78, Tryz.ntmps78
  go_wp2_with fail
  refine Calls.mono HK.out ?_
  rintro e w1 ⟨rfl, went⟩
  obtain ⟨hzc, l', gl, rl, kl, hno⟩ := Went.var hr hh k0 went
  obtain ⟨⟨x0, x1, x2, x3⟩, ⟨y0, y1, y2, y3⟩, hz3⟩ := zc_kept hzc (Kept.refl _ _)
  clear went
  go_wp2
  refine bodyPost_ret (v := .agg #[.int .i64 k, .int .i64 a, .int .u8 d, .int .u8 0]) (by simp [results, Tryz.results78, go_sem, x0, x1, x2, x3]) rfl ⟨rfl, l', gl, ?r, ?k⟩
  case r => repeat (with_reducible first | apply XRep.drew | apply XRep.drewN | apply XRep.alloc | refine XRep.other ?_ hno _ | exact rl)
  case k =>
    have k3 := kl
    (repeat (with_reducible first | apply Kept.alloc | apply Kept.drewN | apply Kept.drew | apply Kept.nb | apply Kept.g | apply Kept.bs | apply Kept.ck | apply Kept.bk | apply Kept.tm | apply Kept.wa | apply Kept.po | apply Kept.up | apply Kept.re | apply Kept.me | refine Kept.setCell ?_ (Or.inr (Nat.le_refl _)) _ | refine Kept.setCell ?_ (Or.inr (by omega)) _ | exact k1 | exact k2 | exact k3 | exact Kept.refl _ _))

set_option maxRecDepth 100000 in
set_option maxHeartbeats 1000000 in
theorem zCycle_access_true {l : XL} {st S : St} {ex E : Ext} {w : World} (hr : XRep l st ex w) (hp : ex.ph = 2) (k a d : Int) (hK : Calls Tryz.prog 91 #[.pointer (some ⟨l.g, 0, none⟩), .iface 135 (.slice (some ⟨l.bs, 0, none⟩) 7 7)] ((w.setCell ⟨l.g, 8, none⟩ (.bool false)).alloc zc) fun e w' => e = .returned (.agg #[.int .i64 k, .int .i64 a, .int .u8 d, .int .u8 0]) ∧ Went l S E ((w.setCell ⟨l.g, 8, none⟩ (.bool false)).alloc zc) w') :
    Calls Tryz.prog 78 #[.pointer (some ⟨l.g, 0, none⟩), .iface 135 (.slice (some ⟨l.bs, 0, none⟩) 7 7), .bool true] w fun e w' => e = .returned (.agg #[.int .i64 k, .int .i64 a, .int .u8 d, .int .u8 0]) ∧ Went l S E w w' := by
  have c1 := hr.c_wait
  have c2 := hr.c_ph
  rw [hp] at c2
  have f1 := hr.f_wait
  have hgl := hr.g_q
  have hnot : ∀ (x : Bool) (w : World), (Op.unary .not (.bool x)).run Tryz.prog w = .ok (.bool (!x)) w := fun _ _ => rfl
  have hh := cyc_world w l.g
  have k0 : Kept l.own w ((w.setCell ⟨l.g, 8, none⟩ (.bool false)).alloc zc) := ((Kept.refl _ w).g _ _).alloc _
  have HK : Hid _ := hK
  clear hK hp
  cases hwt : ex.wait
  · rw [hwt] at c1
    clear hwt
    go_enter Tryz.func78, Tryz.ntmps78
    go_wp2_with fail
    refine Calls.mono HK.out ?_
    rintro e w1 ⟨rfl, went⟩
    obtain ⟨hzc, l', gl, rl, kl, hno⟩ := Went.var hr hh k0 went
    obtain ⟨⟨x0, x1, x2, x3⟩, ⟨y0, y1, y2, y3⟩, hz3⟩ := zc_kept hzc (Kept.refl _ _)
    clear went
    go_wp2
    refine bodyPost_ret (v := .agg #[.int .i64 k, .int .i64 a, .int .u8 d, .int .u8 0]) (by simp [results, Tryz.results78, go_sem, x0, x1, x2, x3]) rfl ⟨rfl, l', gl, ?r, ?k⟩
    case r => repeat (with_reducible first | apply XRep.drew | apply XRep.drewN | apply XRep.alloc | refine XRep.other ?_ hno _ | exact rl)
    case k =>
      have k3 := kl
      (repeat (with_reducible first | apply Kept.alloc | apply Kept.drewN | apply Kept.drew | apply Kept.nb | apply Kept.g | apply Kept.bs | apply Kept.ck | apply Kept.bk | apply Kept.tm | apply Kept.wa | apply Kept.po | apply Kept.up | apply Kept.re | apply Kept.me | refine Kept.setCell ?_ (Or.inr (Nat.le_refl _)) _ | refine Kept.setCell ?_ (Or.inr (by omega)) _ | exact k1 | exact k2 | exact k3 | exact Kept.refl _ _))
  · rw [hwt] at c1
    clear hwt
    go_enter Tryz.func78, Tryz.ntmps78
    go_wp2_with fail
    refine Calls.mono HK.out ?_
    rintro e w1 ⟨rfl, went⟩
    obtain ⟨hzc, l', gl, rl, kl, hno⟩ := Went.var hr hh k0 went
    obtain ⟨⟨x0, x1, x2, x3⟩, ⟨y0, y1, y2, y3⟩, hz3⟩ := zc_kept hzc (Kept.refl _ _)
    clear went
    go_wp2
    refine bodyPost_ret (v := .agg #[.int .i64 k, .int .i64 a, .int .u8 d, .int .u8 0]) (by simp [results, Tryz.results78, go_sem, x0, x1, x2, x3]) rfl ⟨rfl, l', gl, ?r, ?k⟩
    case r => repeat (with_reducible first | apply XRep.drew | apply XRep.drewN | apply XRep.alloc | refine XRep.other ?_ hno _ | exact rl)
    case k =>
      have k3 := kl
      (repeat (with_reducible first | apply Kept.alloc | apply Kept.drewN | apply Kept.drew | apply Kept.nb | apply Kept.g | apply Kept.bs | apply Kept.ck | apply Kept.bk | apply Kept.tm | apply Kept.wa | apply Kept.po | apply Kept.up | apply Kept.re | apply Kept.me | refine Kept.setCell ?_ (Or.inr (Nat.le_refl _)) _ | refine Kept.setCell ?_ (Or.inr (by omega)) _ | exact k1 | exact k2 | exact k3 | exact Kept.refl _ _))

set_option maxRecDepth 100000 in
set_option maxHeartbeats 1000000 in
theorem zCycle_trap_false {l : XL} {st S : St} {ex E : Ext} {w : World} (hr : XRep l st ex w) (hw : ex.wait = false) (hp : ex.ph = 0) (a d : Int) (hK : Calls Tryz.prog 92 #[.pointer (some ⟨l.g, 0, none⟩), .iface 135 (.slice (some ⟨l.bs, 0, none⟩) 7 7)] ((w.setCell ⟨l.g, 8, none⟩ (.bool false)).alloc zc) fun e w' => e = .panicked [{ v := .iface 150 (.agg #[.int .i64 3, .int .i64 a, .int .u8 d, .int .u8 0]), recovered := false }] ∧ Went l S E ((w.setCell ⟨l.g, 8, none⟩ (.bool false)).alloc zc) w') :
    Calls Tryz.prog 78 #[.pointer (some ⟨l.g, 0, none⟩), .iface 135 (.slice (some ⟨l.bs, 0, none⟩) 7 7), .bool false] w fun e w' => e = .panicked [{ v := .iface 150 (.agg #[.int .i64 3, .int .i64 a, .int .u8 d, .int .u8 0]), recovered := false }] ∧ Went l S E w w' := by
  have c1 := hr.c_wait
  rw [hw] at c1
  have c2 := hr.c_ph
  rw [hp] at c2
  have f1 := hr.f_wait
  have hgl := hr.g_q
  have hnot : ∀ (x : Bool) (w : World), (Op.unary .not (.bool x)).run Tryz.prog w = .ok (.bool (!x)) w := fun _ _ => rfl
  have k0 : Kept l.own w ((w.setCell ⟨l.g, 8, none⟩ (.bool false)).alloc zc) := ((Kept.refl _ w).g _ _).alloc _
  have HK : Hid _ := hK
  clear hK hp hw
  go_enter Tryz.func78, Tryz.ntmps78
  go_wp2_with fail
  refine Calls.mono HK.out ?_
  rintro e w1 ⟨rfl, went⟩
  have went2 := Went.before k0 went
  go_wp2
  exact ⟨rfl, rfl, went2⟩

set_option maxRecDepth 100000 in
set_option maxHeartbeats 1000000 in
theorem zCycle_trap_true {l : XL} {st S : St} {ex E : Ext} {w : World} (hr : XRep l st ex w) (hp : ex.ph = 0) (a d : Int) (hK : Calls Tryz.prog 92 #[.pointer (some ⟨l.g, 0, none⟩), .iface 135 (.slice (some ⟨l.bs, 0, none⟩) 7 7)] ((w.setCell ⟨l.g, 8, none⟩ (.bool false)).alloc zc) fun e w' => e = .panicked [{ v := .iface 150 (.agg #[.int .i64 3, .int .i64 a, .int .u8 d, .int .u8 0]), recovered := false }] ∧ Went l S E ((w.setCell ⟨l.g, 8, none⟩ (.bool false)).alloc zc) w') :
    Calls Tryz.prog 78 #[.pointer (some ⟨l.g, 0, none⟩), .iface 135 (.slice (some ⟨l.bs, 0, none⟩) 7 7), .bool true] w fun e w' => e = .panicked [{ v := .iface 150 (.agg #[.int .i64 3, .int .i64 a, .int .u8 d, .int .u8 0]), recovered := false }] ∧ Went l S E w w' := by
  have c1 := hr.c_wait
  have c2 := hr.c_ph
  rw [hp] at c2
  have f1 := hr.f_wait
  have hgl := hr.g_q
  have hnot : ∀ (x : Bool) (w : World), (Op.unary .not (.bool x)).run Tryz.prog w = .ok (.bool (!x)) w := fun _ _ => rfl
  have k0 : Kept l.own w ((w.setCell ⟨l.g, 8, none⟩ (.bool false)).alloc zc) := ((Kept.refl _ w).g _ _).alloc _
  have HK : Hid _ := hK
  clear hK hp
  cases hwt : ex.wait
  · rw [hwt] at c1
    clear hwt
    go_enter Tryz.func78, Tryz.ntmps78
    go_wp2_with fail
    refine Calls.mono HK.out ?_
    rintro e w1 ⟨rfl, went⟩
    have went2 := Went.before k0 went
    go_wp2
    exact ⟨rfl, rfl, went2⟩
  · rw [hwt] at c1
    clear hwt
    go_enter Tryz.func78, Tryz.ntmps78
    go_wp2_with fail
    refine Calls.mono HK.out ?_
    rintro e w1 ⟨rfl, went⟩
    have went2 := Went.before k0 went
    go_wp2
    exact ⟨rfl, rfl, went2⟩

end Go.Proofs.YtikdbpphbdbdnaaGreat

/- The program's processor against the document's: one cycle of it. -/
namespace Go.Proofs.YtikdbpphbdbdnaaGreat
open Go.RowKit
set_option linter.unusedVariables false

/-- The cycle as the processor hands it on. -/
def cyc (c : Cy) : Value := .agg #[.int .i64 c.kind, .int .i64 c.addr, .int .u8 c.data, .int .u8 0]

/-- What a cycle of the processor comes to: nothing special; fed too early; a trap. -/
def CyR (n : Nat) (l : XL) (st : St) (w : World) (e : Ending) (w' : World) : Prop :=
  (∃ ex', e = .returned (cyc st.works.2) ∧ st.works.1.rst = 0 ∧ Went l st.works.1 ex' w w' ∧ Rel n st.works.1 ex') ∨
  (∃ S ex', e = .returned (cyc st.works.2) ∧ st.works.1 = S.reset 3 ∧ Went l S ex' w w' ∧ ex'.early = true ∧ S.bank = st.bank ∧ Clk n S ex' ∧ DsOk ex'.due) ∨
  (∃ S ex', e = .panicked [{ v := .iface 150 (cyc st.works.2), recovered := false }] ∧ st.works.1 = S.reset 4 ∧ Went l S ex' w w' ∧ S.bank = st.bank ∧ Clk n S ex' ∧ DsOk ex'.due)

theorem Went.ghost {l : XL} {st : St} {ex : Ext} {w w' : World} (h : Went l st ex w w') (op opd ph co ag inp rs : Int) : Went l { st with op := op, opd := opd, phase := ph, count := co, age := ag, inp := inp, rst := rs } ex w w' := by
  obtain ⟨l', g, r, k⟩ := h
  exact ⟨l', g, r.ghost op opd ph co ag inp rs, k⟩

/-- Two states that memory does not tell apart. -/
def Alike (s t : St) : Prop := t = { s with op := t.op, opd := t.opd, phase := t.phase, count := t.count, age := t.age, inp := t.inp, rst := t.rst }

theorem Went.alike {l : XL} {s t : St} {ex : Ext} {w w' : World} (h : Went l s ex w w') (e : Alike s t) : Went l t ex w w' := by
  have h2 := h.ghost t.op t.opd t.phase t.count t.age t.inp t.rst
  rw [← e] at h2
  exact h2

theorem jumps_alike (s : St) (ph : Int) (op n : Int) : Alike (s.jumps op n) (({ s with phase := ph } : St).jumps op n) ∧ (({ s with phase := ph } : St).jumps op n).phase = ph ∧ (({ s with phase := ph } : St).jumps op n).rst = s.rst ∧ (({ s with phase := ph } : St).jumps op n).period = s.period ∧ (({ s with phase := ph } : St).jumps op n).count = s.count ∧ (({ s with phase := ph } : St).jumps op n).age = s.age := by
  have hg : ({ s with phase := ph } : St).goes op = s.goes op := rfl
  unfold Alike St.jumps
  rw [hg]
  by_cases h1 : op = 1
  · rw [if_pos h1, if_pos h1]; exact ⟨rfl, rfl, rfl, rfl, rfl, rfl⟩
  · rw [if_neg h1, if_neg h1]
    by_cases h2 : s.goes op = true
    · rw [if_pos h2, if_pos h2]; exact ⟨rfl, rfl, rfl, rfl, rfl, rfl⟩
    · rw [if_neg h2, if_neg h2]; exact ⟨rfl, rfl, rfl, rfl, rfl, rfl⟩

theorem takes_alike (s : St) (ph : Int) (op n : Int) : Alike (s.takes op n) (({ s with phase := ph } : St).takes op n) ∧ (({ s with phase := ph } : St).takes op n).phase = ph ∧ (({ s with phase := ph } : St).takes op n).rst = s.rst ∧ (({ s with phase := ph } : St).takes op n).period = s.period ∧ (({ s with phase := ph } : St).takes op n).count = s.count ∧ (({ s with phase := ph } : St).takes op n).age = s.age := by
  unfold Alike St.takes
  by_cases h4 : op = 4
  · rw [if_pos h4, if_pos h4]; exact ⟨rfl, rfl, rfl, rfl, rfl, rfl⟩
  rw [if_neg h4, if_neg h4]
  by_cases h5 : op = 5
  · rw [if_pos h5, if_pos h5]; exact ⟨rfl, rfl, rfl, rfl, rfl, rfl⟩
  rw [if_neg h5, if_neg h5]
  by_cases h6 : op = 6
  · rw [if_pos h6, if_pos h6]; exact ⟨rfl, rfl, rfl, rfl, rfl, rfl⟩
  rw [if_neg h6, if_neg h6]
  by_cases h7 : op = 7
  · rw [if_pos h7, if_pos h7]; exact ⟨rfl, rfl, rfl, rfl, rfl, rfl⟩
  rw [if_neg h7, if_neg h7]
  by_cases h8 : op = 8
  · rw [if_pos h8, if_pos h8]; exact ⟨rfl, rfl, rfl, rfl, rfl, rfl⟩
  rw [if_neg h8, if_neg h8]
  exact ⟨rfl, rfl, rfl, rfl, rfl, rfl⟩

/-- An instruction without operand, and that it waits. -/
theorem alone_alike (s : St) (d : Int) : Alike (aloneS s d) (({ s with phase := 0, op := d } : St).alone d) ∧ ((d = 24 → (({ s with phase := 0, op := d } : St).alone d).phase = 3) ∧ (¬ d = 24 → (({ s with phase := 0, op := d } : St).alone d).phase = 0)) ∧ (({ s with phase := 0, op := d } : St).alone d).rst = s.rst ∧ (({ s with phase := 0, op := d } : St).alone d).period = s.period ∧ (({ s with phase := 0, op := d } : St).alone d).count = s.count ∧ (({ s with phase := 0, op := d } : St).alone d).age = s.age := by
  unfold Alike aloneS St.alone
  by_cases h24 : d = 24
  · subst h24
    exact ⟨rfl, ⟨fun _ => rfl, fun x => absurd rfl x⟩, rfl, rfl, rfl, rfl⟩
  rw [if_neg h24, if_neg h24]
  by_cases h1 : d = 11
  · rw [if_pos h1, if_pos h1]; exact ⟨rfl, ⟨fun x => absurd x h24, fun _ => rfl⟩, rfl, rfl, rfl, rfl⟩
  rw [if_neg h1, if_neg h1]
  by_cases h2 : d = 12
  · rw [if_pos h2, if_pos h2]; exact ⟨rfl, ⟨fun x => absurd x h24, fun _ => rfl⟩, rfl, rfl, rfl, rfl⟩
  rw [if_neg h2, if_neg h2]
  by_cases h3 : d = 13
  · rw [if_pos h3, if_pos h3]; exact ⟨rfl, ⟨fun x => absurd x h24, fun _ => rfl⟩, rfl, rfl, rfl, rfl⟩
  rw [if_neg h3, if_neg h3]
  by_cases h4 : d = 14
  · rw [if_pos h4, if_pos h4]; exact ⟨rfl, ⟨fun x => absurd x h24, fun _ => rfl⟩, rfl, rfl, rfl, rfl⟩
  rw [if_neg h4, if_neg h4, if_neg h24]
  exact ⟨rfl, ⟨fun x => absurd x h24, fun _ => rfl⟩, rfl, rfl, rfl, rfl⟩

/-- A byte written: either nothing special, or fed too early. -/
theorem write_rel {n : Nat} {st : St} {E : Ext} (hi : Inv st) (h : Rel n st E) (hph : st.phase = 0) (hrst : st.rst = 0) (a v : Int) (a0 : 0 ≤ a) (v0 : 0 ≤ v) (v1 : v ≤ 255) :
    ((st.write a v).rst = 0 ∧ Alike (wrS st a v) (st.write a v) ∧ Rel n (st.write a v) (wrX st E a v)) ∨
    (∃ S, st.write a v = S.reset 3 ∧ Alike (wrS st a v) S ∧ (wrX st E a v).early = true ∧ S.bank = st.bank ∧ Clk n S (wrX st E a v) ∧ DsOk (wrX st E a v).due) := by
  have plain : ∀ t : St, t.rst = 0 → t.phase = 0 → t.period = st.period → t.count = st.count → t.age = st.age → Rel n t E := fun t h1 h2 h3 h4 h5 =>
    ⟨h.clk.as rfl rfl rfl h3 h4 h5, by rw [h3]; exact h.due, ⟨fun _ => h.ph.p0 hph, fun x => by omega, fun x => by omega, fun x => by omega⟩, h.early⟩
  by_cases c0 : a < 128
  · left
    have e1 : st.write a v = { st with mem := upd st.mem a.toNat v } := by unfold St.write; rw [if_pos c0]
    have e2 : wrS st a v = { st with mem := upd st.mem a.toNat v } := by unfold wrS; rw [if_pos c0]
    have e3 : wrX st E a v = E := by unfold wrX; rw [if_neg (by omega), if_neg (by omega)]
    rw [e1, e2, e3]
    exact ⟨hrst, rfl, plain _ hrst hph rfl rfl rfl⟩
  by_cases c1 : a = 192
  · left
    have e1 : st.write a v = { st with period := v, count := v, flag := false } := by unfold St.write; rw [if_neg c0, if_pos c1]
    have e2 : wrS st a v = { st with period := v, flag := false } := by unfold wrS; rw [if_neg c0, if_pos c1]
    have e3 : wrX st E a v = startX E v := by unfold wrX; rw [if_pos c1]
    rw [e1, e2, e3]
    refine ⟨hrst, rfl, ?_⟩
    have hd : dropD false E.due = [⟨true, E.fed + 251⟩] := by rw [h.due]; exact canon_drop _ _ _
    by_cases hv : v = 0
    · have e4 : startX E v = { E with due := [⟨true, E.fed + 251⟩] } := by unfold startX; rw [if_pos hv, hd]
      rw [e4]
      refine ⟨⟨h.clk.n0, h.clk.n1, fun x => absurd hv x, fun _ => hv, h.clk.fd⟩, ?_, ⟨fun _ => h.ph.p0 hph, fun x => absurd (hph.symm.trans x) (by decide), fun x => absurd (hph.symm.trans x) (by decide), fun x => absurd (hph.symm.trans x) (by decide)⟩, h.early⟩
      show [_] = canon v E.next (E.fed + 251)
      unfold canon; rw [if_pos hv]
    · have e4 : startX E v = { E with next := E.now + v, due := canon v (E.now + v) (E.fed + 251) } := by
        unfold startX; rw [if_neg hv, hd, put_timer _ _ v hv]
      rw [e4]
      exact ⟨⟨h.clk.n0, h.clk.n1, fun _ => rfl, fun x => absurd x hv, h.clk.fd⟩, rfl, ⟨fun _ => h.ph.p0 hph, fun x => absurd (hph.symm.trans x) (by decide), fun x => absurd (hph.symm.trans x) (by decide), fun x => absurd (hph.symm.trans x) (by decide)⟩, h.early⟩
  by_cases c2 : a = 194
  · left
    have e1 : st.write a v = { st with flag := false } := by unfold St.write; rw [if_neg c0, if_neg c1, if_pos c2]
    have e2 : wrS st a v = { st with flag := false } := by unfold wrS; rw [if_neg c0, if_neg c1, if_pos c2]
    have e3 : wrX st E a v = E := by unfold wrX; rw [if_neg c1, if_neg (by omega)]
    rw [e1, e2, e3]
    exact ⟨hrst, rfl, plain _ hrst hph rfl rfl rfl⟩
  by_cases c3 : a = 195
  · have e1 : st.write a v = st.keys v := by unfold St.write; rw [if_neg c0, if_neg c1, if_neg c2, if_pos c3]
    have e2 : wrS st a v = { st with key := (v == 150) } := by unfold wrS; rw [if_neg c0, if_neg c1, if_neg c2, if_pos c3]
    have e3 : wrX st E a v = keyX st E v := by unfold wrX; rw [if_neg c1, if_pos c3]
    rw [e1, e2, e3]
    unfold St.keys keyX
    by_cases k1 : v = 105 ∧ st.key = true
    · rw [if_pos k1, if_pos k1]
      by_cases k2 : st.age < st.window
      · rw [if_pos k2, if_pos k2]
        right
        exact ⟨{ st with key := (v == 150) }, rfl, rfl, rfl, rfl, h.clk.as rfl rfl rfl rfl rfl rfl, h.ok⟩
      · rw [if_neg k2, if_neg k2]
        left
        refine ⟨hrst, rfl, ⟨h.clk.n0, h.clk.n1, h.clk.nx, h.clk.p0, ?_⟩, ?_, ⟨fun _ => h.ph.p0 hph, fun x => absurd (hph.symm.trans x) (by decide), fun x => absurd (hph.symm.trans x) (by decide), fun x => absurd (hph.symm.trans x) (by decide)⟩, h.early⟩
        · show E.now = E.now - 0
          omega
        · show putD E.due ⟨true, E.now + 251⟩ = canon st.period E.next (E.now + 251)
          rw [h.due]; exact canon_feed _ _ _ _
    · rw [if_neg k1, if_neg k1]
      left
      exact ⟨hrst, rfl, plain _ hrst hph rfl rfl rfl⟩
  have e3 : wrX st E a v = E := by unfold wrX; rw [if_neg c1, if_neg c3]
  left
  rw [e3]
  by_cases c4 : a = 196
  · have e1 : st.write a v = winS st v := by unfold St.write winS; rw [if_neg c0, if_neg c1, if_neg c2, if_neg c3, if_pos c4]
    have e2 : wrS st a v = winS st v := by unfold wrS; rw [if_neg c0, if_neg c1, if_neg c2, if_neg c3, if_pos c4]
    rw [e1, e2]
    unfold winS
    split
    · exact ⟨hrst, rfl, plain _ hrst hph rfl rfl rfl⟩
    · exact ⟨hrst, rfl, plain _ hrst hph rfl rfl rfl⟩
  by_cases c5 : a = 197
  · have e1 : st.write a v = { st with out := v } := by unfold St.write; rw [if_neg c0, if_neg c1, if_neg c2, if_neg c3, if_neg c4, if_pos c5]
    have e2 : wrS st a v = { st with out := v } := by unfold wrS; rw [if_neg c0, if_neg c1, if_neg c2, if_neg c3, if_neg c4, if_pos c5]
    rw [e1, e2]
    exact ⟨hrst, rfl, plain _ hrst hph rfl rfl rfl⟩
  by_cases c6 : 199 ≤ a
  · have e1 : st.write a v = st.updates a v := by unfold St.write; rw [if_neg c0, if_neg c1, if_neg c2, if_neg c3, if_neg c4, if_neg c5, if_pos c6]
    have e2 : wrS st a v = st.updates a v := by unfold wrS; rw [if_neg c0, if_neg c1, if_neg c2, if_neg c3, if_neg c4, if_neg c5, if_pos c6]
    rw [e1, e2]
    have q : (st.updates a v).rst = st.rst ∧ (st.updates a v).phase = st.phase ∧ (st.updates a v).period = st.period ∧ (st.updates a v).count = st.count ∧ (st.updates a v).age = st.age := by
      unfold St.updates St.setBank St.setStrikes
      repeat' split
      all_goals exact ⟨rfl, rfl, rfl, rfl, rfl⟩
    exact ⟨q.1.trans hrst, rfl, plain _ (q.1.trans hrst) (q.2.1.trans hph) q.2.2.1 q.2.2.2.1 q.2.2.2.2⟩
  · have e1 : st.write a v = st := by unfold St.write; rw [if_neg c0, if_neg c1, if_neg c2, if_neg c3, if_neg c4, if_neg c5, if_neg c6]
    have e2 : wrS st a v = st := by unfold wrS; rw [if_neg c0, if_neg c1, if_neg c2, if_neg c3, if_neg c4, if_neg c5, if_neg c6]
    rw [e1, e2]
    exact ⟨hrst, rfl, plain _ hrst hph rfl rfl rfl⟩

theorem updates_alike (s : St) (ph a v : Int) : Alike (s.updates a v) (({ s with phase := ph } : St).updates a v) := by
  have e1 : ({ s with phase := ph } : St).inBank = s.inBank := rfl
  unfold Alike St.updates St.setBank St.setStrikes
  rw [e1]
  by_cases c1 : a = 199
  · rw [if_pos c1, if_pos c1]
    by_cases c2 : v = 229
    · rw [if_pos c2, if_pos c2]
      by_cases c3 : 1 - s.bank = 0
      · rw [if_pos c3, if_pos c3]
      · rw [if_neg c3, if_neg c3]
    · rw [if_neg c2, if_neg c2]
  rw [if_neg c1, if_neg c1]
  by_cases c4 : a = 200
  · rw [if_pos c4, if_pos c4]
  rw [if_neg c4, if_neg c4]
  by_cases c5 : a = 201
  · rw [if_pos c5, if_pos c5]
    by_cases c6 : s.opn = true
    · rw [if_pos c6, if_pos c6]
      by_cases c3 : 1 - s.bank = 0
      · rw [if_pos c3, if_pos c3]
      · rw [if_neg c3, if_neg c3]
    · rw [if_neg c6, if_neg c6]
  rw [if_neg c5, if_neg c5]
  by_cases c7 : a = 203
  · rw [if_pos c7, if_pos c7]
    by_cases c8 : v = 13
    · rw [if_pos c8, if_pos c8]
      by_cases c9 : s.bank = 0
      · rw [if_pos c9, if_pos c9]
      · rw [if_neg c9, if_neg c9]
    · rw [if_neg c8, if_neg c8]
  · rw [if_neg c7, if_neg c7]

theorem wrS_alike (s : St) (ph a v : Int) : Alike (wrS s a v) (wrS ({ s with phase := ph } : St) a v) := by
  by_cases c0 : a < 128
  · have e1 : wrS s a v = { s with mem := upd s.mem a.toNat v } := by unfold wrS; rw [if_pos c0]
    have e2 : wrS ({ s with phase := ph } : St) a v = { s with phase := ph, mem := upd s.mem a.toNat v } := by unfold wrS; rw [if_pos c0]
    rw [e1, e2]; rfl
  by_cases c1 : a = 192
  · subst c1; rfl
  by_cases c2 : a = 194
  · subst c2; rfl
  by_cases c3 : a = 195
  · subst c3; rfl
  by_cases c4 : a = 196
  · have e1 : ∀ t : St, wrS t a v = winS t v := fun t => by unfold wrS; rw [if_neg c0, if_neg c1, if_neg c2, if_neg c3, if_pos c4]
    rw [e1, e1]
    unfold Alike winS
    by_cases c : s.windowed = false ∧ v ≤ 200
    · rw [if_pos c, if_pos c]
    · rw [if_neg c, if_neg c]
  by_cases c5 : a = 197
  · subst c5; rfl
  by_cases c6 : 199 ≤ a
  · have e1 : ∀ t : St, wrS t a v = t.updates a v := fun t => by unfold wrS; rw [if_neg c0, if_neg c1, if_neg c2, if_neg c3, if_neg c4, if_neg c5, if_pos c6]
    rw [e1, e1]
    exact updates_alike s ph a v
  · have e1 : ∀ t : St, wrS t a v = t := fun t => by unfold wrS; rw [if_neg c0, if_neg c1, if_neg c2, if_neg c3, if_neg c4, if_neg c5, if_neg c6]
    rw [e1, e1]
    rfl

theorem target_bounds {st : St} (hi : Inv st) (op : Int) : 0 ≤ st.target op st.opd ∧ st.target op st.opd ≤ 255 := by
  have h1 := hi.opd
  have h2 := hi.x
  unfold St.target
  split
  · omega
  · exact h1

theorem zCycle_fetch {l : XL} {st S : St} {ex E : Ext} {w : World} (hr : XRep l st ex w) (fl : Bool) (hw : ex.wait = false ∨ fl = true) (hp : ex.ph = 0) (k a d : Int) (hK : Calls Tryz.prog 92 #[.pointer (some ⟨l.g, 0, none⟩), .iface 135 (.slice (some ⟨l.bs, 0, none⟩) 7 7)] ((w.setCell ⟨l.g, 8, none⟩ (.bool false)).alloc zc) fun e w' => e = .returned (.agg #[.int .i64 k, .int .i64 a, .int .u8 d, .int .u8 0]) ∧ Went l S E ((w.setCell ⟨l.g, 8, none⟩ (.bool false)).alloc zc) w') :
    Calls Tryz.prog 78 #[.pointer (some ⟨l.g, 0, none⟩), .iface 135 (.slice (some ⟨l.bs, 0, none⟩) 7 7), .bool fl] w fun e w' => e = .returned (.agg #[.int .i64 k, .int .i64 a, .int .u8 d, .int .u8 0]) ∧ Went l S E w w' := by
  cases fl
  · exact zCycle_fetch_false hr (by rcases hw with h | h; exact h; cases h) hp k a d hK
  · exact zCycle_fetch_true hr hp k a d hK

theorem zCycle_trap {l : XL} {st S : St} {ex E : Ext} {w : World} (hr : XRep l st ex w) (fl : Bool) (hw : ex.wait = false ∨ fl = true) (hp : ex.ph = 0) (a d : Int) (hK : Calls Tryz.prog 92 #[.pointer (some ⟨l.g, 0, none⟩), .iface 135 (.slice (some ⟨l.bs, 0, none⟩) 7 7)] ((w.setCell ⟨l.g, 8, none⟩ (.bool false)).alloc zc) fun e w' => e = .panicked [{ v := .iface 150 (.agg #[.int .i64 3, .int .i64 a, .int .u8 d, .int .u8 0]), recovered := false }] ∧ Went l S E ((w.setCell ⟨l.g, 8, none⟩ (.bool false)).alloc zc) w') :
    Calls Tryz.prog 78 #[.pointer (some ⟨l.g, 0, none⟩), .iface 135 (.slice (some ⟨l.bs, 0, none⟩) 7 7), .bool fl] w fun e w' => e = .panicked [{ v := .iface 150 (.agg #[.int .i64 3, .int .i64 a, .int .u8 d, .int .u8 0]), recovered := false }] ∧ Went l S E w w' := by
  cases fl
  · exact zCycle_trap_false hr (by rcases hw with h | h; exact h; cases h) hp a d hK
  · exact zCycle_trap_true hr hp a d hK

theorem zCycle_operand {l : XL} {st S : St} {ex E : Ext} {w : World} (hr : XRep l st ex w) (fl : Bool) (hw : ex.wait = false) (hp : ex.ph = 1) (k a d : Int) (hK : Calls Tryz.prog 90 #[.pointer (some ⟨l.g, 0, none⟩), .iface 135 (.slice (some ⟨l.bs, 0, none⟩) 7 7)] ((w.setCell ⟨l.g, 8, none⟩ (.bool false)).alloc zc) fun e w' => e = .returned (.agg #[.int .i64 k, .int .i64 a, .int .u8 d, .int .u8 0]) ∧ Went l S E ((w.setCell ⟨l.g, 8, none⟩ (.bool false)).alloc zc) w') :
    Calls Tryz.prog 78 #[.pointer (some ⟨l.g, 0, none⟩), .iface 135 (.slice (some ⟨l.bs, 0, none⟩) 7 7), .bool fl] w fun e w' => e = .returned (.agg #[.int .i64 k, .int .i64 a, .int .u8 d, .int .u8 0]) ∧ Went l S E w w' := by
  cases fl
  · exact zCycle_operand_false hr hw hp k a d hK
  · exact zCycle_operand_true hr hp k a d hK

theorem zCycle_access {l : XL} {st S : St} {ex E : Ext} {w : World} (hr : XRep l st ex w) (fl : Bool) (hw : ex.wait = false) (hp : ex.ph = 2) (k a d : Int) (hK : Calls Tryz.prog 91 #[.pointer (some ⟨l.g, 0, none⟩), .iface 135 (.slice (some ⟨l.bs, 0, none⟩) 7 7)] ((w.setCell ⟨l.g, 8, none⟩ (.bool false)).alloc zc) fun e w' => e = .returned (.agg #[.int .i64 k, .int .i64 a, .int .u8 d, .int .u8 0]) ∧ Went l S E ((w.setCell ⟨l.g, 8, none⟩ (.bool false)).alloc zc) w') :
    Calls Tryz.prog 78 #[.pointer (some ⟨l.g, 0, none⟩), .iface 135 (.slice (some ⟨l.bs, 0, none⟩) 7 7), .bool fl] w fun e w' => e = .returned (.agg #[.int .i64 k, .int .i64 a, .int .u8 d, .int .u8 0]) ∧ Went l S E w w' := by
  cases fl
  · exact zCycle_access_false hr hw hp k a d hK
  · exact zCycle_access_true hr hp k a d hK

theorem CyR.norm {n : Nat} {l : XL} {st S : St} {C : Cy} {E : Ext} {w w' : World} {e : Ending} (ew : st.works = (S, C)) (h1 : e = .returned (cyc C)) (h2 : S.rst = 0) (h3 : Went l S E w w') (h4 : Rel n S E) : CyR n l st w e w' :=
  Or.inl ⟨E, by rw [h1, ew], by rw [ew]; exact h2, by rw [ew]; exact h3, by rw [ew]; exact h4⟩

theorem CyR.soon {n : Nat} {l : XL} {st S : St} {C : Cy} {E : Ext} {w w' : World} {e : Ending} (ew : st.works = (S.reset 3, C)) (h1 : e = .returned (cyc C)) (h3 : Went l S E w w') (h4 : E.early = true) (h5 : S.bank = st.bank) (h6 : Clk n S E) (h7 : DsOk E.due) : CyR n l st w e w' :=
  Or.inr (Or.inl ⟨S, E, by rw [h1, ew], by rw [ew], h3, h4, h5, h6, h7⟩)

theorem CyR.trap {n : Nat} {l : XL} {st S : St} {C : Cy} {E : Ext} {w w' : World} {e : Ending} (ew : st.works = (S.reset 4, C)) (h1 : e = .panicked [{ v := .iface 150 (cyc C), recovered := false }]) (h3 : Went l S E w w') (h5 : S.bank = st.bank) (h6 : Clk n S E) (h7 : DsOk E.due) : CyR n l st w e w' :=
  Or.inr (Or.inr ⟨S, E, by rw [h1, ew], by rw [ew], h3, h5, h6, h7⟩)

theorem zCycle_any {n : Nat} (hn : n < 4611686018427387904) {l : XL} {st : St} {ex : Ext} {w : World} (hr : XRep l st ex w) (hi : Inv st) (h : Rel n st ex) (hb : st.bank = 0 ∨ st.bank = 1) (hin : ex.inp = st.inp) (hrst : st.rst = 0) :
    Calls Tryz.prog 78 #[.pointer (some ⟨l.g, 0, none⟩), .iface 135 (.slice (some ⟨l.bs, 0, none⟩) 7 7), .bool st.flag] w fun e w' => CyR n l st w e w' := by
  have hrW : XRep l st { ex with wait := false } ((w.setCell ⟨l.g, 8, none⟩ (.bool false)).alloc zc) := (hr.set_wait false).alloc zc
  have hR : Runs n st { ex with wait := false } := ⟨hn, hi, h.clk.as rfl rfl rfl rfl rfl rfl, h.ok, hb, hin⟩
  have hb0 : 0 ≤ st.bank := by omega
  have hphs := hi.phase
  have hrd := fun a => read_bounds hi hb0 a
  -- a cycle for which the processor waits
  by_cases c3 : st.phase = 3 ∧ st.flag = false
  · obtain ⟨c3, cf⟩ := c3
    have ew : st.works = (st, ⟨2, 0, 0, 0⟩) := by unfold St.works; rw [if_pos ⟨c3, cf⟩]
    rw [cf]
    exact (zCycle_idle hr (h.ph.p3 c3).2).mono fun e w' ⟨h1, h2⟩ => CyR.norm ew h1 hrst h2 h
  by_cases c1 : st.phase = 1
  · obtain ⟨q1, q2, q3, q4⟩ := h.ph.p1 c1
    have o0 := hi.op
    have hd := hrd st.pc
    by_cases c13 : opLen st.op = 3
    · have ew : st.works = ({ (st.next 4).1 with phase := 2, opd := st.read st.pc }, ⟨4, st.pc, st.read st.pc, 0⟩) := by
        unfold St.works; rw [if_neg (by omega), if_pos c1, if_pos c13]; rfl
      have hs : ¬ shapeN st.op = 2 := fun x => by have := (shape_len st.op).2.2.1 x; omega
      refine (zCycle_operand hr st.flag q2 q1 4 st.pc (st.read st.pc) ((zoperand_more hrW hR st.op (st.read st.pc) q3 o0.1 rfl hd.1 hd.2 hs).mono fun e w' ⟨h1, h2, h3⟩ => ⟨h1, Went.mk h2 h3⟩)).mono fun e w' ⟨h1, h2⟩ => CyR.norm ew h1 hrst (h2.alike rfl) ?_
      · refine ⟨h.clk.as rfl rfl rfl rfl rfl rfl, h.due, ⟨fun x => absurd x (by decide : ¬ (2 : Int) = 0), fun x => absurd x (by decide : ¬ (2 : Int) = 1), fun _ => ⟨rfl, rfl, q3, ?_⟩, fun x => absurd x (by decide : ¬ (2 : Int) = 3)⟩, h.early⟩
        exact (indexed_target st st.op (st.read st.pc)).symm
    · have c12 : opLen st.op = 2 := by omega
      have ew : st.works = (({ (st.next 4).1 with phase := 0 } : St).jumps st.op (st.read st.pc), ⟨4, st.pc, st.read st.pc, 0⟩) := by
        unfold St.works; rw [if_neg (by omega), if_pos c1, if_neg c13]; rfl
      have hs : shapeN st.op = 2 := (shape_len st.op).2.2.2 c12
      obtain ⟨j1, j2, j3, j4, j5, j6⟩ := jumps_alike ({ st with pc := (st.pc + 1) % 256 }) 0 st.op (st.read st.pc)
      refine (zCycle_operand hr st.flag q2 q1 4 st.pc (st.read st.pc) ((zoperand_two hrW hR st.op (st.read st.pc) q3 o0.1 rfl hd.1 hd.2 hs (shape_two hs)).mono fun e w' ⟨h1, h2, h3⟩ => ⟨h1, Went.mk h2 h3⟩)).mono fun e w' ⟨h1, h2⟩ => CyR.norm ew h1 (j3.trans hrst) (h2.alike j1) ?_
      · refine ⟨h.clk.as rfl rfl rfl j4 j5 j6, ?_, ⟨fun _ => ⟨rfl, rfl⟩, fun x => absurd (j2.symm.trans x) (by decide), fun x => absurd (j2.symm.trans x) (by decide), fun x => absurd (j2.symm.trans x) (by decide)⟩, h.early⟩
        show ex.due = canon _ ex.next (ex.fed + 251)
        rw [h.due]
        exact congrArg (fun p => canon p ex.next (ex.fed + 251)) j4.symm
  by_cases c2 : st.phase = 2
  · obtain ⟨q1, q2, q3, q4⟩ := h.ph.p2 c2
    have hop := hi.ph2 c2
    have ht := target_bounds hi st.op
    have ew : st.works = ({ st with phase := 0 } : St).asks st.op st.opd := by
      unfold St.works; rw [if_neg (by omega), if_neg c1, if_pos c2]
    have h0 : Rel n ({ st with phase := 0 } : St) { ex with wait := false, ph := 0 } :=
      ⟨h.clk.as rfl rfl rfl rfl rfl rfl, h.due, ⟨fun _ => ⟨rfl, rfl⟩, fun x => absurd x (by decide : ¬ (0 : Int) = 1), fun x => absurd x (by decide : ¬ (0 : Int) = 2), fun x => absurd x (by decide : ¬ (0 : Int) = 3)⟩, h.early⟩
    have hi0 : Inv ({ st with phase := 0 } : St) := { hi with phase := (by decide : (0 : Int) ≤ 0 ∧ (0 : Int) ≤ 3), ph2 := fun x => absurd x (by decide : ¬ (0 : Int) = 2) }
    rcases shape_34 hop with ⟨hs, h310⟩ | ⟨hs, h29, hn3⟩
    · have ea : ({ st with phase := 0 } : St).asks st.op st.opd = (({ st with phase := 0 } : St).write (st.target st.op st.opd) st.a, ⟨6, st.target st.op st.opd, st.a, 0⟩) := by
        unfold St.asks; rw [if_pos h310]; rfl
      have hA := zCycle_access hr st.flag q2 q1 6 (st.target st.op st.opd) st.a (zaccess_write hrW hR st.op (st.target st.op st.opd) q3 (by omega) hs q4 ht.1 ht.2)
      have e1 : wrX st ({ ex with wait := false, ph := 0 } : Ext) (st.target st.op st.opd) st.a = wrX ({ st with phase := 0 } : St) { ex with wait := false, ph := 0 } (st.target st.op st.opd) st.a := rfl
      have e2 : Alike (wrS st (st.target st.op st.opd) st.a) (wrS ({ st with phase := 0 } : St) (st.target st.op st.opd) st.a) := by
        exact wrS_alike st 0 _ _
      rcases write_rel hi0 h0 rfl hrst (st.target st.op st.opd) st.a ht.1 hi.a.1 hi.a.2 with ⟨w1, w2, w3⟩ | ⟨S, w1, w2, w3, w4, w5, w6⟩
      · exact hA.mono fun e w' ⟨h1, h2⟩ => CyR.norm (ew.trans ea) h1 w1 ((h2.alike e2).alike w2) w3
      · exact hA.mono fun e w' ⟨h1, h2⟩ => CyR.soon (C := ⟨6, st.target st.op st.opd, st.a, 0⟩) (by rw [ew, ea, w1]) h1 ((h2.alike e2).alike w2) w3 w4 w5 w6
    · have hd := hrd (st.target st.op st.opd)
      have ea : ({ st with phase := 0 } : St).asks st.op st.opd = (({ st with phase := 0 } : St).takes st.op (st.read (st.target st.op st.opd)), ⟨5, st.target st.op st.opd, st.read (st.target st.op st.opd), 0⟩) := by
        unfold St.asks; rw [if_neg (by omega)]; rfl
      obtain ⟨j1, j2, j3, j4, j5, j6⟩ := takes_alike st 0 st.op (st.read (st.target st.op st.opd))
      refine (zCycle_access hr st.flag q2 q1 5 (st.target st.op st.opd) (st.read (st.target st.op st.opd)) ((zaccess_read hrW hR st.op (st.target st.op st.opd) (st.read (st.target st.op st.opd)) q3 h29 hn3 hs q4 ht.1 ht.2 rfl hd.1 hd.2).mono fun e w' ⟨h1, h2, h3⟩ => ⟨h1, Went.mk h2 h3⟩)).mono fun e w' ⟨h1, h2⟩ => CyR.norm (ew.trans ea) h1 (j3.trans hrst) (h2.alike j1) ?_
      · refine ⟨h.clk.as rfl rfl rfl j4 j5 j6, ?_, ⟨fun _ => ⟨rfl, rfl⟩, fun x => absurd (j2.symm.trans x) (by decide), fun x => absurd (j2.symm.trans x) (by decide), fun x => absurd (j2.symm.trans x) (by decide)⟩, h.early⟩
        show ex.due = canon _ ex.next (ex.fed + 251)
        rw [h.due]
        exact congrArg (fun p => canon p ex.next (ex.fed + 251)) j4.symm
  -- the first byte
  have hd := hrd st.pc
  have hwf : (ex.wait = false ∨ st.flag = true) ∧ ex.ph = 0 := by
    by_cases x0 : st.phase = 0
    · exact ⟨Or.inl (h.ph.p0 x0).2, (h.ph.p0 x0).1⟩
    · have x3 : st.phase = 3 := by omega
      refine ⟨Or.inr ?_, (h.ph.p3 x3).1⟩
      cases hf : st.flag
      · exact absurd ⟨x3, hf⟩ c3
      · rfl
  have ew0 : st.works = (if opLen (st.read st.pc) = 0 then ({ (st.next 3).1 with phase := 0, op := st.read st.pc } : St).reset 4 else if opLen (st.read st.pc) = 1 then ({ (st.next 3).1 with phase := 0, op := st.read st.pc } : St).alone (st.read st.pc) else { (st.next 3).1 with phase := 1, op := st.read st.pc }, ⟨3, st.pc, st.read st.pc, 0⟩) := by
    unfold St.works; rw [if_neg c3, if_neg c1, if_neg c2]; rfl
  have hnx : ¬ opLen (st.read st.pc) = 0 → ¬ opLen (st.read st.pc) = 1 → opLen (st.read st.pc) = 2 ∨ opLen (st.read st.pc) = 3 := fun a b => by
    rcases opLen_cases (st.read st.pc) with x | x | x | x
    · exact absurd x a
    · exact absurd x b
    · exact Or.inl x
    · exact Or.inr x
  by_cases l0 : opLen (st.read st.pc) = 0
  · have ew : st.works = (({ (st.next 3).1 with phase := 0, op := st.read st.pc } : St).reset 4, ⟨3, st.pc, st.read st.pc, 0⟩) := by rw [ew0, if_pos l0]
    have hs : shapeN (st.read st.pc) = 0 := (shape_len _).1.2 l0
    exact (zCycle_trap hr st.flag hwf.1 hwf.2 st.pc (st.read st.pc) ((zfetch_trap hrW hR (st.read st.pc) rfl hd.1 hd.2 hs).mono fun e w' ⟨h1, h2, h3⟩ => ⟨h1, Went.mk h2 h3⟩)).mono fun e w' ⟨h1, h2⟩ => CyR.trap ew h1 (h2.alike rfl) rfl (h.clk.as rfl rfl rfl rfl rfl rfl) h.ok
  by_cases l1 : opLen (st.read st.pc) = 1
  · have ew : st.works = (({ (st.next 3).1 with phase := 0, op := st.read st.pc } : St).alone (st.read st.pc), ⟨3, st.pc, st.read st.pc, 0⟩) := by rw [ew0, if_neg l0, if_pos l1]
    have hs : shapeN (st.read st.pc) = 1 := (shape_len _).2.1.2 l1
    obtain ⟨j1, j2, j3, j4, j5, j6⟩ := alone_alike ({ st with pc := (st.pc + 1) % 256 }) (st.read st.pc)
    refine (zCycle_fetch hr st.flag hwf.1 hwf.2 3 st.pc (st.read st.pc) ((zfetch_one hrW hR (st.read st.pc) rfl hd.1 hd.2 hs (shape_one hs)).mono fun e w' ⟨h1, h2, h3⟩ => ⟨h1, Went.mk h2 h3⟩)).mono fun e w' ⟨h1, h2⟩ => CyR.norm ew h1 (j3.trans hrst) (h2.alike j1) ?_
    · have hX : (aloneX ({ ex with wait := false, op := st.read st.pc } : Ext) (st.read st.pc)).now = ex.now ∧ (aloneX ({ ex with wait := false, op := st.read st.pc } : Ext) (st.read st.pc)).next = ex.next ∧ (aloneX ({ ex with wait := false, op := st.read st.pc } : Ext) (st.read st.pc)).fed = ex.fed ∧ (aloneX ({ ex with wait := false, op := st.read st.pc } : Ext) (st.read st.pc)).due = ex.due ∧ (aloneX ({ ex with wait := false, op := st.read st.pc } : Ext) (st.read st.pc)).early = ex.early ∧ (aloneX ({ ex with wait := false, op := st.read st.pc } : Ext) (st.read st.pc)).ph = ex.ph ∧ (aloneX ({ ex with wait := false, op := st.read st.pc } : Ext) (st.read st.pc)).wait = decide (st.read st.pc = 24) := by
        unfold aloneX
        by_cases h24 : st.read st.pc = 24
        · rw [if_pos h24]; exact ⟨rfl, rfl, rfl, rfl, rfl, rfl, (decide_eq_true h24).symm⟩
        · rw [if_neg h24]; exact ⟨rfl, rfl, rfl, rfl, rfl, rfl, (decide_eq_false h24).symm⟩
      obtain ⟨x1, x2, x3, x4, x5, x6, x7⟩ := hX
      refine ⟨h.clk.as x1 x2 x3 j4 j5 j6, ?_, ?_, x5.trans h.early⟩
      · rw [x4, x2, x3, h.due]
        exact congrArg (fun p => canon p ex.next (ex.fed + 251)) j4.symm
      · by_cases h24 : st.read st.pc = 24
        · have jp := j2.1 h24
          exact ⟨fun x => absurd (jp.symm.trans x) (by decide), fun x => absurd (jp.symm.trans x) (by decide), fun x => absurd (jp.symm.trans x) (by decide), fun _ => ⟨x6.trans hwf.2, x7.trans (decide_eq_true h24)⟩⟩
        · have jp := j2.2 h24
          exact ⟨fun _ => ⟨x6.trans hwf.2, x7.trans (decide_eq_false h24)⟩, fun x => absurd (jp.symm.trans x) (by decide), fun x => absurd (jp.symm.trans x) (by decide), fun x => absurd (jp.symm.trans x) (by decide)⟩
  · have ew : st.works = ({ (st.next 3).1 with phase := 1, op := st.read st.pc }, ⟨3, st.pc, st.read st.pc, 0⟩) := by rw [ew0, if_neg l0, if_neg l1]
    have hs0 : ¬ shapeN (st.read st.pc) = 0 := fun x => l0 ((shape_len _).1.1 x)
    have hs1 : ¬ shapeN (st.read st.pc) = 1 := fun x => l1 ((shape_len _).2.1.1 x)
    refine (zCycle_fetch hr st.flag hwf.1 hwf.2 3 st.pc (st.read st.pc) ((zfetch_more hrW hR (st.read st.pc) rfl hd.1 hd.2 hs0 hs1).mono fun e w' ⟨h1, h2, h3⟩ => ⟨h1, Went.mk h2 h3⟩)).mono fun e w' ⟨h1, h2⟩ => CyR.norm ew h1 hrst (h2.alike rfl) ?_
    · exact ⟨h.clk.as rfl rfl rfl rfl rfl rfl, h.due, ⟨fun x => absurd x (by decide : ¬ (1 : Int) = 0), fun _ => ⟨rfl, rfl, rfl, hnx l0 l1⟩, fun x => absurd x (by decide : ¬ (1 : Int) = 2), fun x => absurd x (by decide : ¬ (1 : Int) = 3)⟩, h.early⟩

end Go.Proofs.YtikdbpphbdbdnaaGreat
