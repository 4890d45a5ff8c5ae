/- The parts on the bus: what is written to them; strikes. -/
import Derived.Test.YtommhbidkoeifaaGreatClock2
namespace Go.Proofs.YtommhbidkoeifaaGreat
open Go.RowKit
set_option linter.unusedVariables false

theorem Went.mk {l : XL} {st : St} {ex : Ext} {w w' : World} (h : XRep l st ex w') (k : Kept l.own w w') : Went l st ex w w' := ⟨l, Grew.refl l w, h, k⟩

theorem Went.as {l : XL} {st st' : St} {ex ex' : Ext} {w w' : World} (h : Went l st ex w w') (e : st = st') (e' : ex = ex') : Went l st' ex' w w' := e ▸ e' ▸ h

theorem XRep.ext_b0 {l : XL} {st : St} {ex : Ext} {w : World} (h : XRep l st ex w) (f : Nat → Int) (hf : ∀ i, i < 64 → f i = st.b0 i) : XRep l { st with b0 := f } ex w :=
  ⟨fun j hj => by
    by_cases e : j = 4
    · subst e
      intro i hi
      have h1 := h.all 4 hj i hi
      have e2 : encbk l { st with b0 := f } ex i = encbk l st ex i := by
        unfold encbk
        split <;> first | rfl | (split; (rename_i h2; exact congrArg (Value.int .u8) (hf _ h2)); rfl)
      exact ⟨h1.1.trans (congrArg some e2.symm), h1.2⟩
    · have := h.all j hj
      rcases eleven hj with rfl | rfl | rfl | rfl | rfl | rfl | rfl | rfl | rfl | rfl | rfl <;> first | exact this | exact absurd rfl e, h.inj, h.qu, h.qa⟩

theorem XRep.ext_b1 {l : XL} {st : St} {ex : Ext} {w : World} (h : XRep l st ex w) (f : Nat → Int) (hf : ∀ i, i < 64 → f i = st.b1 i) : XRep l { st with b1 := f } ex w :=
  ⟨fun j hj => by
    by_cases e : j = 4
    · subst e
      intro i hi
      have hi2 : i < 131 := hi
      have h1 := h.all 4 hj i hi
      have e2 : encbk l { st with b1 := f } ex i = encbk l st ex i := by
        unfold encbk
        split <;> first | rfl | (split; rfl; rename_i h128 h129 h130 h2; exact congrArg (Value.int .u8) (hf (i - 64) (by have a1 : i ≠ 128 := h128; have a2 : i ≠ 129 := h129; have a3 : i ≠ 130 := h130; have a4 : i < 131 := hi2; omega)))
      exact ⟨h1.1.trans (congrArg some e2.symm), h1.2⟩
    · have := h.all j hj
      rcases eleven hj with rfl | rfl | rfl | rfl | rfl | rfl | rfl | rfl | rfl | rfl | rfl <;> first | exact this | exact absurd rfl e, h.inj, h.qu, h.qa⟩

def fillN (f : Nat → Int) (j : Nat) : Nat → Int := fun i => if i < j then 255 else f i

theorem fillN_succ (f : Nat → Int) (j : Nat) : upd (fillN f j) j 255 = fillN f (j + 1) := by
  funext i
  unfold upd fillN
  by_cases e : i = j
  · rw [if_pos e, if_pos (by omega)]
  · rw [if_neg e]
    by_cases h : i < j
    · rw [if_pos h, if_pos (by omega)]
    · rw [if_neg h, if_neg (by omega)]

set_option maxHeartbeats 400000 in
theorem mwrite_any {l : XL} {st : St} {ex : Ext} {w : World} (hr : XRep l st ex w) (k : Nat) (hk : k < 128) (v : Int) :
    Calls Tryz.prog 136 #[.pointer (some ⟨l.me, 0, none⟩), .int .u8 k, .int .u8 v] w fun e w' => e = .returned (.tuple #[]) ∧ Went l { st with mem := upd st.mem k v } ex w w' := by
  have c1 := hr.c_mem k hk
  have f1 := hr.f_mem k hk
  have hk' : (k : Int) < 128 := by omega
  go_enter Tryz.func136, Tryz.ntmps136
  go_wp2
  (first | go_end0 | refine bodyPost_ret (results_none rfl _ _ _) rfl ?_)
  exact ⟨rfl, Went.mk (hr.set_mem k hk v) ((Kept.refl _ _).me _ _)⟩

set_option maxHeartbeats 400000 in
theorem gwrite_any {l : XL} {st : St} {ex : Ext} {w : World} (hr : XRep l st ex w) (k v : Int) :
    Calls Tryz.prog 138 #[.agg #[.pointer (some ⟨l.bk, 0, none⟩)], .int .u8 k, .int .u8 v] w fun e w' => e = .returned (.tuple #[]) ∧ Went l st ex w w' := by
  go_enter Tryz.func138, Tryz.ntmps138
  go_wp2
  (first | go_end0 | refine bodyPost_ret (results_none rfl _ _ _) rfl ?_)
  exact ⟨rfl, Went.mk (hr.alloc _) ((Kept.refl _ _).alloc _)⟩

set_option maxHeartbeats 400000 in
theorem pwrite_0 {l : XL} {st : St} {ex : Ext} {w : World} (hr : XRep l st ex w) (v : Int) :
    Calls Tryz.prog 151 #[.pointer (some ⟨l.po, 0, none⟩), .int .u8 0, .int .u8 v] w fun e w' => e = .returned (.tuple #[]) ∧ Went l { st with out := v } ex w w' := by
  have c1 := hr.c_out
  have f1 := hr.f_out
  go_enter Tryz.func151, Tryz.ntmps151
  go_wp2
  (first | go_end0 | refine bodyPost_ret (results_none rfl _ _ _) rfl ?_)
  exact ⟨rfl, Went.mk (hr.set_out _) ((Kept.refl _ _).po _ _)⟩

set_option maxHeartbeats 400000 in
theorem pwrite_1 {l : XL} {st : St} {ex : Ext} {w : World} (hr : XRep l st ex w) (v : Int) :
    Calls Tryz.prog 151 #[.pointer (some ⟨l.po, 0, none⟩), .int .u8 1, .int .u8 v] w fun e w' => e = .returned (.tuple #[]) ∧ Went l st ex w w' := by
  go_enter Tryz.func151, Tryz.ntmps151
  go_wp2
  (first | go_end0 | refine bodyPost_ret (results_none rfl _ _ _) rfl ?_)
  exact ⟨rfl, Went.mk hr (Kept.refl _ _)⟩

set_option maxHeartbeats 400000 in
theorem pboot_any {l : XL} {st : St} {ex : Ext} {w : World} (hr : XRep l st ex w) :
    Calls Tryz.prog 81 #[.pointer (some ⟨l.po, 0, none⟩)] w fun e w' => e = .returned (.tuple #[]) ∧ XRep l { st with out := 0 } ex w' ∧ Kept l.own w w' := by
  have c1 := hr.c_out
  have f1 := hr.f_out
  go_enter Tryz.func81, Tryz.ntmps81
  go_wp2
  (first | go_end0 | refine bodyPost_ret (results_none rfl _ _ _) rfl ?_)
  exact ⟨rfl, hr.set_out _, (Kept.refl _ _).po _ _⟩

set_option maxHeartbeats 400000 in
theorem uboot_any {l : XL} {st : St} {ex : Ext} {w : World} (hr : XRep l st ex w) :
    Calls Tryz.prog 82 #[.pointer (some ⟨l.up, 0, none⟩)] w fun e w' => e = .returned (.tuple #[]) ∧ XRep l { st with opn := false, place := 0 } ex w' ∧ Kept l.own w w' := by
  have c1 := hr.c_opn
  have f1 := hr.f_opn
  have c2 := hr.c_place
  have f2 := hr.f_place
  go_enter Tryz.func82, Tryz.ntmps82
  go_wp2
  (first | go_end0 | refine bodyPost_ret (results_none rfl _ _ _) rfl ?_)
  exact ⟨rfl, ((hr.set_opn _).set_place _).as rfl rfl, ((Kept.refl _ _).up _ _).up _ _⟩

set_option maxRecDepth 100000 in
set_option maxHeartbeats 1000000 in
theorem uerase_0 {l : XL} {st : St} {ex : Ext} {w : World} (hr : XRep l st ex w) (hb : st.bank = 0) :
    Calls Tryz.prog 157 #[.pointer (some ⟨l.up, 0, none⟩)] w fun e w' => e = .returned (.tuple #[]) ∧ XRep l { st with b1 := fun _ => 255 } ex w' ∧ Kept l.own w w' := by
  have c1 := hr.c_ubk
  have HB : Hid _ := hb
  clear hb
  go_enter Tryz.func157, Tryz.ntmps157
  go_wp2_with fail
  refine (kspare_0 hr HB.out).mono ?_
  rintro e w1 ⟨rfl, nq, rfl⟩
  go_wp2
  go_loopw [3, 9] (fun _ i wx => ∃ j : Nat, j ≤ 64 ∧ i = .int .i64 j ∧ XRep l { st with b1 := fillN st.b1 j } ex wx ∧ Kept l.own w wx) (fun _ i _ => 64 - (intOf i).toNat)
  case atStart => exact ⟨0, by omega, rfl, (hr.drewN _).as (by show st = { st with b1 := fun i => if i < 0 then 255 else st.b1 i }; simp) rfl, (Kept.refl _ _).drewN _⟩
  case round =>
    obtain ⟨j, hj, rfl, hx, kx⟩ := hrel
    by_cases hlt : j < 64
    · have hlt' : (j : Int) < 64 := by omega
      have d1 := hx.c_b1 j hlt
      have d2 := hx.f_bk (64 + j) (by omega)
      have h2 := (hx.set_b1 j hlt 255).as (by show { st with b1 := upd (fillN st.b1 j) j 255 } = { st with b1 := fillN st.b1 (j + 1) }; rw [fillN_succ]) rfl
      have HX : Hid _ := h2
      clear h2
      go_wp2
      exact ⟨⟨j + 1, by omega, by go_num, HX.out, kx.bk _ _⟩, by simp [intOf]; omega⟩
    · have hlt' : ¬ (j : Int) < 64 := by omega
      go_wp2
      (first | go_end0 | refine bodyPost_ret (results_none rfl _ _ _) rfl ?_)
      refine ⟨rfl, ?_, kx⟩
      exact (hx.ext_b1 (fun _ => 255) (fun i hi => by show 255 = fillN st.b1 j i; unfold fillN; rw [if_pos (by omega)])).as rfl rfl

set_option maxRecDepth 100000 in
set_option maxHeartbeats 1000000 in
theorem uturn_open_0 {l : XL} {st : St} {ex : Ext} {w : World} (hr : XRep l st ex w) (hb : st.bank = 0) :
    Calls Tryz.prog 155 #[.pointer (some ⟨l.up, 0, none⟩), .int .u8 229] w fun e w' => e = .returned (.tuple #[]) ∧ XRep l { st with opn := true, b1 := fun _ => 255, place := 0 } ex w' ∧ Kept l.own w w' := by
  have c1 := hr.c_opn
  have f1 := hr.f_opn
  have HB : Hid _ := hb
  clear hb
  go_enter Tryz.func155, Tryz.ntmps155
  go_wp2_with fail
  refine (uerase_0 (hr.set_opn true) HB.out).mono ?_
  rintro e w1 ⟨rfl, hr1, k1⟩
  have d1 := hr1.c_place
  have d2 := hr1.f_place
  have k2 := (((Kept.refl l.own w).up 1 (.bool true)).trans k1)
  go_wp2
  (first | go_end0 | refine bodyPost_ret (results_none rfl _ _ _) rfl ?_)
  exact ⟨rfl, (hr1.set_place _).as rfl rfl, k2.up _ _⟩

set_option maxRecDepth 100000 in
set_option maxHeartbeats 1000000 in
theorem ufill_0 {l : XL} {st : St} {ex : Ext} {w : World} (hr : XRep l st ex w) (hb : st.bank = 0) (ho : st.opn = true) (k : Nat) (hk : k < 64) (hp : st.place = k) (v : Int) :
    Calls Tryz.prog 156 #[.pointer (some ⟨l.up, 0, none⟩), .int .u8 v] w fun e w' => e = .returned (.tuple #[]) ∧ XRep l { st with b1 := upd st.b1 k v, place := (k + 1) % 64 } ex w' ∧ Kept l.own w w' := by
  have c1 := hr.c_opn
  rw [ho] at c1
  have hk' : (k : Int) < 64 := by omega
  have HC : Hid _ := fun W (hW : Still w W) => kspare_0 (hr.kept hW (fun _ _ x => x)) hb
  have HS : Hid (∀ W, Still w W → W.cell? ⟨l.bk, 64 + k, none⟩ = some (.int .u8 (st.b1 k)) ∧ W.frozen? ⟨l.bk, 64 + k, none⟩ = false ∧ W.cell? ⟨l.up, 2, none⟩ = some (.int .u8 k) ∧ W.cell? ⟨l.up, 0, none⟩ = some (.pointer (some ⟨l.bk, 0, none⟩))) := fun W hW =>
    have h := hr.kept hW (fun _ _ x => x)
    ⟨h.c_b1 k hk, h.f_bk _ (by omega), by rw [h.c_place, hp], h.c_ubk⟩
  have HR : Hid (∀ W, Still w W → XRep l { st with b1 := upd st.b1 k v } ex (W.setCell ⟨l.bk, 64 + k, none⟩ (.int .u8 v))) := fun W hW => (hr.kept hW (fun _ _ x => x)).set_b1 k hk v
  have HP : Hid (st.place = k) := hp
  obtain ⟨d1, d2, d3, d4⟩ := HS.out w (Kept.refl _ _)
  have f3 := hr.f_place
  clear ho hb hp
  go_enter Tryz.func156, Tryz.ntmps156
  go_wp2
  go_region_with (first | (go_at_call 154; refine (HC.out _ (by unfold Still; (repeat (with_reducible first | apply Kept.alloc | apply Kept.drewN | apply Kept.drew | apply Kept.nb | apply Kept.g | apply Kept.bs | apply Kept.ck | apply Kept.bk | apply Kept.tm | apply Kept.wa | apply Kept.po | apply Kept.up | apply Kept.re | apply Kept.me | refine Kept.setCell ?_ (Or.inr (Nat.le_refl _)) _ | refine Kept.setCell ?_ (Or.inr (by omega)) _ | exact k1 | exact k2 | exact k3 | exact Kept.refl _ _)))).mono ?_; rintro e w' ⟨rfl, n, rfl⟩))
  all_goals
    have hx := HR.out (w.drewN (1 + n)) ((Kept.refl _ _).drewN _)
    have d5 := hx.c_place
    have d6 := hx.f_place
    have d7 : Hid (∀ v, XRep l _ ex _) := fun v => hx.set_place v
    have d8 : st.place = k := HP.out
    rw [d8] at d5
    clear d8 hx
    go_wp2
    (first | go_end0 | refine bodyPost_ret (results_none rfl _ _ _) rfl ?_)
    exact ⟨rfl, (d7.out _).as rfl rfl, by (repeat (with_reducible first | apply Kept.alloc | apply Kept.drewN | apply Kept.drew | apply Kept.nb | apply Kept.g | apply Kept.bs | apply Kept.ck | apply Kept.bk | apply Kept.tm | apply Kept.wa | apply Kept.po | apply Kept.up | apply Kept.re | apply Kept.me | refine Kept.setCell ?_ (Or.inr (Nat.le_refl _)) _ | refine Kept.setCell ?_ (Or.inr (by omega)) _ | exact k1 | exact k2 | exact k3 | exact Kept.refl _ _))⟩

set_option maxRecDepth 100000 in
set_option maxHeartbeats 1000000 in
theorem uerase_1 {l : XL} {st : St} {ex : Ext} {w : World} (hr : XRep l st ex w) (hb : st.bank = 1) :
    Calls Tryz.prog 157 #[.pointer (some ⟨l.up, 0, none⟩)] w fun e w' => e = .returned (.tuple #[]) ∧ XRep l { st with b0 := fun _ => 255 } ex w' ∧ Kept l.own w w' := by
  have c1 := hr.c_ubk
  have HB : Hid _ := hb
  clear hb
  go_enter Tryz.func157, Tryz.ntmps157
  go_wp2_with fail
  refine (kspare_1 hr HB.out).mono ?_
  rintro e w1 ⟨rfl, nq, rfl⟩
  go_wp2
  go_loopw [3, 9] (fun _ i wx => ∃ j : Nat, j ≤ 64 ∧ i = .int .i64 j ∧ XRep l { st with b0 := fillN st.b0 j } ex wx ∧ Kept l.own w wx) (fun _ i _ => 64 - (intOf i).toNat)
  case atStart => exact ⟨0, by omega, rfl, (hr.drewN _).as (by show st = { st with b0 := fun i => if i < 0 then 255 else st.b0 i }; simp) rfl, (Kept.refl _ _).drewN _⟩
  case round =>
    obtain ⟨j, hj, rfl, hx, kx⟩ := hrel
    by_cases hlt : j < 64
    · have hlt' : (j : Int) < 64 := by omega
      have d1 := hx.c_b0 j hlt
      have d2 := hx.f_bk (j) (by omega)
      have h2 := (hx.set_b0 j hlt 255).as (by show { st with b0 := upd (fillN st.b0 j) j 255 } = { st with b0 := fillN st.b0 (j + 1) }; rw [fillN_succ]) rfl
      have HX : Hid _ := h2
      clear h2
      go_wp2
      exact ⟨⟨j + 1, by omega, by go_num, HX.out, kx.bk _ _⟩, by simp [intOf]; omega⟩
    · have hlt' : ¬ (j : Int) < 64 := by omega
      go_wp2
      (first | go_end0 | refine bodyPost_ret (results_none rfl _ _ _) rfl ?_)
      refine ⟨rfl, ?_, kx⟩
      exact (hx.ext_b0 (fun _ => 255) (fun i hi => by show 255 = fillN st.b0 j i; unfold fillN; rw [if_pos (by omega)])).as rfl rfl

set_option maxRecDepth 100000 in
set_option maxHeartbeats 1000000 in
theorem uturn_open_1 {l : XL} {st : St} {ex : Ext} {w : World} (hr : XRep l st ex w) (hb : st.bank = 1) :
    Calls Tryz.prog 155 #[.pointer (some ⟨l.up, 0, none⟩), .int .u8 229] w fun e w' => e = .returned (.tuple #[]) ∧ XRep l { st with opn := true, b0 := fun _ => 255, place := 0 } ex w' ∧ Kept l.own w w' := by
  have c1 := hr.c_opn
  have f1 := hr.f_opn
  have HB : Hid _ := hb
  clear hb
  go_enter Tryz.func155, Tryz.ntmps155
  go_wp2_with fail
  refine (uerase_1 (hr.set_opn true) HB.out).mono ?_
  rintro e w1 ⟨rfl, hr1, k1⟩
  have d1 := hr1.c_place
  have d2 := hr1.f_place
  have k2 := (((Kept.refl l.own w).up 1 (.bool true)).trans k1)
  go_wp2
  (first | go_end0 | refine bodyPost_ret (results_none rfl _ _ _) rfl ?_)
  exact ⟨rfl, (hr1.set_place _).as rfl rfl, k2.up _ _⟩

set_option maxRecDepth 100000 in
set_option maxHeartbeats 1000000 in
theorem ufill_1 {l : XL} {st : St} {ex : Ext} {w : World} (hr : XRep l st ex w) (hb : st.bank = 1) (ho : st.opn = true) (k : Nat) (hk : k < 64) (hp : st.place = k) (v : Int) :
    Calls Tryz.prog 156 #[.pointer (some ⟨l.up, 0, none⟩), .int .u8 v] w fun e w' => e = .returned (.tuple #[]) ∧ XRep l { st with b0 := upd st.b0 k v, place := (k + 1) % 64 } ex w' ∧ Kept l.own w w' := by
  have c1 := hr.c_opn
  rw [ho] at c1
  have hk' : (k : Int) < 64 := by omega
  have HC : Hid _ := fun W (hW : Still w W) => kspare_1 (hr.kept hW (fun _ _ x => x)) hb
  have HS : Hid (∀ W, Still w W → W.cell? ⟨l.bk, k, none⟩ = some (.int .u8 (st.b0 k)) ∧ W.frozen? ⟨l.bk, k, none⟩ = false ∧ W.cell? ⟨l.up, 2, none⟩ = some (.int .u8 k) ∧ W.cell? ⟨l.up, 0, none⟩ = some (.pointer (some ⟨l.bk, 0, none⟩))) := fun W hW =>
    have h := hr.kept hW (fun _ _ x => x)
    ⟨h.c_b0 k hk, h.f_bk _ (by omega), by rw [h.c_place, hp], h.c_ubk⟩
  have HR : Hid (∀ W, Still w W → XRep l { st with b0 := upd st.b0 k v } ex (W.setCell ⟨l.bk, k, none⟩ (.int .u8 v))) := fun W hW => (hr.kept hW (fun _ _ x => x)).set_b0 k hk v
  have HP : Hid (st.place = k) := hp
  obtain ⟨d1, d2, d3, d4⟩ := HS.out w (Kept.refl _ _)
  have f3 := hr.f_place
  clear ho hb hp
  go_enter Tryz.func156, Tryz.ntmps156
  go_wp2
  go_region_with (first | (go_at_call 154; refine (HC.out _ (by unfold Still; (repeat (with_reducible first | apply Kept.alloc | apply Kept.drewN | apply Kept.drew | apply Kept.nb | apply Kept.g | apply Kept.bs | apply Kept.ck | apply Kept.bk | apply Kept.tm | apply Kept.wa | apply Kept.po | apply Kept.up | apply Kept.re | apply Kept.me | refine Kept.setCell ?_ (Or.inr (Nat.le_refl _)) _ | refine Kept.setCell ?_ (Or.inr (by omega)) _ | exact k1 | exact k2 | exact k3 | exact Kept.refl _ _)))).mono ?_; rintro e w' ⟨rfl, n, rfl⟩))
  all_goals
    have hx := HR.out (w.drewN (1 + n)) ((Kept.refl _ _).drewN _)
    have d5 := hx.c_place
    have d6 := hx.f_place
    have d7 : Hid (∀ v, XRep l _ ex _) := fun v => hx.set_place v
    have d8 : st.place = k := HP.out
    rw [d8] at d5
    clear d8 hx
    go_wp2
    (first | go_end0 | refine bodyPost_ret (results_none rfl _ _ _) rfl ?_)
    exact ⟨rfl, (d7.out _).as rfl rfl, by (repeat (with_reducible first | apply Kept.alloc | apply Kept.drewN | apply Kept.drew | apply Kept.nb | apply Kept.g | apply Kept.bs | apply Kept.ck | apply Kept.bk | apply Kept.tm | apply Kept.wa | apply Kept.po | apply Kept.up | apply Kept.re | apply Kept.me | refine Kept.setCell ?_ (Or.inr (Nat.le_refl _)) _ | refine Kept.setCell ?_ (Or.inr (by omega)) _ | exact k1 | exact k2 | exact k3 | exact Kept.refl _ _))⟩

set_option maxHeartbeats 400000 in
theorem ufill_shut {l : XL} {st : St} {ex : Ext} {w : World} (hr : XRep l st ex w) (ho : st.opn = false) (v : Int) :
    Calls Tryz.prog 156 #[.pointer (some ⟨l.up, 0, none⟩), .int .u8 v] w fun e w' => e = .returned (.tuple #[]) ∧ w' = w := by
  have c1 := hr.c_opn
  rw [ho] at c1
  clear ho
  go_enter Tryz.func156, Tryz.ntmps156
  go_wp2
  (first | go_end0 | refine bodyPost_ret (results_none rfl _ _ _) rfl ?_)
  exact ⟨rfl, rfl⟩

set_option maxHeartbeats 400000 in
theorem uturn_shut {l : XL} {st : St} {ex : Ext} {w : World} (hr : XRep l st ex w) (v : Int) (hv : (v == 229) = false) :
    Calls Tryz.prog 155 #[.pointer (some ⟨l.up, 0, none⟩), .int .u8 v] w fun e w' => e = .returned (.tuple #[]) ∧ XRep l { st with opn := false } ex w' ∧ Kept l.own w w' := by
  have c1 := hr.c_opn
  have f1 := hr.f_opn
  go_enter Tryz.func155, Tryz.ntmps155
  go_wp2
  (first | go_end0 | refine bodyPost_ret (results_none rfl _ _ _) rfl ?_)
  exact ⟨rfl, hr.set_opn _, (Kept.refl _ _).up _ _⟩

set_option maxRecDepth 100000 in
set_option maxHeartbeats 400000 in
theorem kforgive_0 {l : XL} {st : St} {ex : Ext} {w : World} (hr : XRep l st ex w) (hb : st.bank = 0) :
    Calls Tryz.prog 159 #[.pointer (some ⟨l.bk, 0, none⟩)] w fun e w' => e = .returned (.tuple #[]) ∧ XRep l (st.setStrikes 0) ex w' ∧ Kept l.own w w' := by
  have HF : Hid (st.setStrikes 0 = { st with s0 := 0 }) := by simp [Hid, St.setStrikes, hb]
  have c1 := hr.c_bank
  rw [hb] at c1
  clear hb
  have c2 := hr.c_s0
  have f2 := hr.f_s0
  go_enter Tryz.func159, Tryz.ntmps159
  go_wp2
  go_region
  all_goals
    go_wp2
    (first | go_end0 | refine bodyPost_ret (results_none rfl _ _ _) rfl ?_)
    refine ⟨rfl, ?_, by (repeat (with_reducible first | apply Kept.alloc | apply Kept.drewN | apply Kept.drew | apply Kept.nb | apply Kept.g | apply Kept.bs | apply Kept.ck | apply Kept.bk | apply Kept.tm | apply Kept.wa | apply Kept.po | apply Kept.up | apply Kept.re | apply Kept.me | refine Kept.setCell ?_ (Or.inr (Nat.le_refl _)) _ | refine Kept.setCell ?_ (Or.inr (by omega)) _ | exact k1 | exact k2 | exact k3 | exact Kept.refl _ _))⟩
    rw [HF.out]
    first | exact (hr.set_s0 0).drew | exact hr.drew.set_s0 0 | exact (hr.set_s0 0).drewN _

set_option maxRecDepth 100000 in
set_option maxHeartbeats 400000 in
theorem kforgive_1 {l : XL} {st : St} {ex : Ext} {w : World} (hr : XRep l st ex w) (hb : st.bank = 1) :
    Calls Tryz.prog 159 #[.pointer (some ⟨l.bk, 0, none⟩)] w fun e w' => e = .returned (.tuple #[]) ∧ XRep l (st.setStrikes 0) ex w' ∧ Kept l.own w w' := by
  have HF : Hid (st.setStrikes 0 = { st with s1 := 0 }) := by simp [Hid, St.setStrikes, hb]
  have c1 := hr.c_bank
  rw [hb] at c1
  clear hb
  have c2 := hr.c_s1
  have f2 := hr.f_s1
  go_enter Tryz.func159, Tryz.ntmps159
  go_wp2
  go_region
  all_goals
    go_wp2
    (first | go_end0 | refine bodyPost_ret (results_none rfl _ _ _) rfl ?_)
    refine ⟨rfl, ?_, by (repeat (with_reducible first | apply Kept.alloc | apply Kept.drewN | apply Kept.drew | apply Kept.nb | apply Kept.g | apply Kept.bs | apply Kept.ck | apply Kept.bk | apply Kept.tm | apply Kept.wa | apply Kept.po | apply Kept.up | apply Kept.re | apply Kept.me | refine Kept.setCell ?_ (Or.inr (Nat.le_refl _)) _ | refine Kept.setCell ?_ (Or.inr (by omega)) _ | exact k1 | exact k2 | exact k3 | exact Kept.refl _ _))⟩
    rw [HF.out]
    first | exact (hr.set_s1 0).drew | exact hr.drew.set_s1 0 | exact (hr.set_s1 0).drewN _

set_option maxRecDepth 100000 in
set_option maxHeartbeats 400000 in
theorem kstrike_0 {l : XL} {st : St} {ex : Ext} {w : World} (hr : XRep l st ex w) (hb : st.bank = 0) :
    Calls Tryz.prog 71 #[.pointer (some ⟨l.bk, 0, none⟩)] w fun e w' => e = .returned (.tuple #[]) ∧ XRep l (st.setStrikes (wrap64 (st.strikes + 1))) ex w' ∧ Kept l.own w w' := by
  have HF : Hid (st.setStrikes (wrap64 (st.strikes + 1)) = { st with s0 := wrap64 (st.s0 + 1) }) := by simp [Hid, St.setStrikes, St.strikes, hb]
  have c1 := hr.c_bank
  rw [hb] at c1
  clear hb
  have c2 := hr.c_s0
  have f2 := hr.f_s0
  go_enter Tryz.func71, Tryz.ntmps71
  go_wp2
  go_region
  all_goals
    go_wp2
    (first | go_end0 | refine bodyPost_ret (results_none rfl _ _ _) rfl ?_)
    refine ⟨rfl, ?_, by (repeat (with_reducible first | apply Kept.alloc | apply Kept.drewN | apply Kept.drew | apply Kept.nb | apply Kept.g | apply Kept.bs | apply Kept.ck | apply Kept.bk | apply Kept.tm | apply Kept.wa | apply Kept.po | apply Kept.up | apply Kept.re | apply Kept.me | refine Kept.setCell ?_ (Or.inr (Nat.le_refl _)) _ | refine Kept.setCell ?_ (Or.inr (by omega)) _ | exact k1 | exact k2 | exact k3 | exact Kept.refl _ _))⟩
    rw [HF.out]
    first | exact (hr.set_s0 _).drew | exact hr.drew.set_s0 _ | exact (hr.set_s0 _).drewN _

set_option maxRecDepth 100000 in
set_option maxHeartbeats 400000 in
theorem kstrike_1 {l : XL} {st : St} {ex : Ext} {w : World} (hr : XRep l st ex w) (hb : st.bank = 1) :
    Calls Tryz.prog 71 #[.pointer (some ⟨l.bk, 0, none⟩)] w fun e w' => e = .returned (.tuple #[]) ∧ XRep l (st.setStrikes (wrap64 (st.strikes + 1))) ex w' ∧ Kept l.own w w' := by
  have HF : Hid (st.setStrikes (wrap64 (st.strikes + 1)) = { st with s1 := wrap64 (st.s1 + 1) }) := by simp [Hid, St.setStrikes, St.strikes, hb]
  have c1 := hr.c_bank
  rw [hb] at c1
  clear hb
  have c2 := hr.c_s1
  have f2 := hr.f_s1
  go_enter Tryz.func71, Tryz.ntmps71
  go_wp2
  go_region
  all_goals
    go_wp2
    (first | go_end0 | refine bodyPost_ret (results_none rfl _ _ _) rfl ?_)
    refine ⟨rfl, ?_, by (repeat (with_reducible first | apply Kept.alloc | apply Kept.drewN | apply Kept.drew | apply Kept.nb | apply Kept.g | apply Kept.bs | apply Kept.ck | apply Kept.bk | apply Kept.tm | apply Kept.wa | apply Kept.po | apply Kept.up | apply Kept.re | apply Kept.me | refine Kept.setCell ?_ (Or.inr (Nat.le_refl _)) _ | refine Kept.setCell ?_ (Or.inr (by omega)) _ | exact k1 | exact k2 | exact k3 | exact Kept.refl _ _))⟩
    rw [HF.out]
    first | exact (hr.set_s1 _).drew | exact hr.drew.set_s1 _ | exact (hr.set_s1 _).drewN _

set_option maxRecDepth 100000 in
set_option maxHeartbeats 400000 in
theorem cwrite_13 {l : XL} {st : St} {ex : Ext} {w : World} (hr : XRep l st ex w) (hb : st.bank = 0 ∨ st.bank = 1) :
    Calls Tryz.prog 158 #[.pointer (some ⟨l.re, 0, none⟩), .int .u8 1, .int .u8 13] w fun e w' => e = .returned (.tuple #[]) ∧ Went l (st.setStrikes 0) ex w w' := by
  have c1 := hr.c_rbk
  have HK : Hid (Calls Tryz.prog 159 #[.pointer (some ⟨l.bk, 0, none⟩)] w fun e w' => e = .returned (.tuple #[]) ∧ XRep l (st.setStrikes 0) ex w' ∧ Kept l.own w w') := by
    rcases hb with hb | hb
    · exact kforgive_0 hr hb
    · exact kforgive_1 hr hb
  clear hb
  go_enter Tryz.func158, Tryz.ntmps158
  go_wp2_with fail
  refine Calls.mono HK.out ?_
  rintro e w1 ⟨rfl, hr1, k1⟩
  go_wp2
  (first | go_end0 | refine bodyPost_ret (results_none rfl _ _ _) rfl ?_)
  exact ⟨rfl, Went.mk hr1 k1⟩

set_option maxHeartbeats 400000 in
theorem cwrite_no {l : XL} {st : St} {ex : Ext} {w : World} (hr : XRep l st ex w) (v : Int) (hv : (v == 13) = false) :
    Calls Tryz.prog 158 #[.pointer (some ⟨l.re, 0, none⟩), .int .u8 1, .int .u8 v] w fun e w' => e = .returned (.tuple #[]) ∧ Went l st ex w w' := by
  go_enter Tryz.func158, Tryz.ntmps158
  go_wp2
  (first | go_end0 | refine bodyPost_ret (results_none rfl _ _ _) rfl ?_)
  exact ⟨rfl, Went.mk hr (Kept.refl _ _)⟩

set_option maxHeartbeats 400000 in
theorem cwrite_0 {l : XL} {st : St} {ex : Ext} {w : World} (hr : XRep l st ex w) (v : Int) :
    Calls Tryz.prog 158 #[.pointer (some ⟨l.re, 0, none⟩), .int .u8 0, .int .u8 v] w fun e w' => e = .returned (.tuple #[]) ∧ Went l st ex w w' := by
  go_enter Tryz.func158, Tryz.ntmps158
  go_wp2
  (first | go_end0 | refine bodyPost_ret (results_none rfl _ _ _) rfl ?_)
  exact ⟨rfl, Went.mk hr (Kept.refl _ _)⟩

set_option maxHeartbeats 400000 in
theorem uwrite_1 {l : XL} {st : St} {ex : Ext} {w : World} (hr : XRep l st ex w) (v : Int) (h0 : 0 ≤ v) (h1 : v ≤ 255) :
    Calls Tryz.prog 153 #[.pointer (some ⟨l.up, 0, none⟩), .int .u8 1, .int .u8 v] w fun e w' => e = .returned (.tuple #[]) ∧ Went l { st with place := v % 64 } ex w w' := by
  have c1 := hr.c_place
  have f1 := hr.f_place
  go_enter Tryz.func153, Tryz.ntmps153
  go_wp2
  (first | go_end0 | refine bodyPost_ret (results_none rfl _ _ _) rfl ?_)
  exact ⟨rfl, Went.mk (hr.set_place _) ((Kept.refl _ _).up _ _)⟩

/-- What the updater's places do. -/
theorem uwrite_0 {l : XL} {st : St} {ex : Ext} {w : World} (hr : XRep l st ex w) (hb : st.bank = 0 ∨ st.bank = 1) (v : Int) :
    Calls Tryz.prog 153 #[.pointer (some ⟨l.up, 0, none⟩), .int .u8 0, .int .u8 v] w fun e w' => e = .returned (.tuple #[]) ∧ Went l (st.updates 199 v) ex w w' := by
  have HK : Hid (Calls Tryz.prog 155 #[.pointer (some ⟨l.up, 0, none⟩), .int .u8 v] w fun e w' => e = .returned (.tuple #[]) ∧ XRep l (st.updates 199 v) ex w' ∧ Kept l.own w w') := by
    unfold Hid
    by_cases hv : v = 229
    · subst hv
      rcases hb with hb | hb
      · exact (uturn_open_0 hr hb).mono fun e w' ⟨h1, h2, h3⟩ => ⟨h1, h2.as (by simp [St.updates, St.setBank, hb]) rfl, h3⟩
      · exact (uturn_open_1 hr hb).mono fun e w' ⟨h1, h2, h3⟩ => ⟨h1, h2.as (by simp [St.updates, St.setBank, hb]) rfl, h3⟩
    · exact (uturn_shut hr v (by simpa using hv)).mono fun e w' ⟨h1, h2, h3⟩ => ⟨h1, h2.as (by simp [St.updates, hv]) rfl, h3⟩
  clear hb
  go_enter Tryz.func153, Tryz.ntmps153
  go_wp2_with fail
  refine Calls.mono HK.out ?_
  rintro e w1 ⟨rfl, hr1, k1⟩
  go_wp2
  (first | go_end0 | refine bodyPost_ret (results_none rfl _ _ _) rfl ?_)
  exact ⟨rfl, Went.mk hr1 k1⟩

theorem uwrite_2 {l : XL} {st : St} {ex : Ext} {w : World} (hr : XRep l st ex w) (hi : Inv st) (hb : st.bank = 0 ∨ st.bank = 1) (v : Int) :
    Calls Tryz.prog 153 #[.pointer (some ⟨l.up, 0, none⟩), .int .u8 2, .int .u8 v] w fun e w' => e = .returned (.tuple #[]) ∧ Went l (st.updates 201 v) ex w w' := by
  have HK : Hid (Calls Tryz.prog 156 #[.pointer (some ⟨l.up, 0, none⟩), .int .u8 v] w fun e w' => e = .returned (.tuple #[]) ∧ XRep l (st.updates 201 v) ex w' ∧ Kept l.own w w') := by
    unfold Hid
    have hp := hi.place
    cases ho : st.opn
    · exact (ufill_shut hr ho v).mono fun e w' ⟨h1, h2⟩ => ⟨h1, by rw [h2]; exact hr.as (by simp [St.updates, ho]) rfl, by rw [h2]; exact Kept.refl _ _⟩
    · have hpe : ((st.place.toNat : Nat) : Int) = st.place := Int.toNat_of_nonneg hp.1
      rcases hb with hb | hb
      · exact (ufill_0 hr hb ho st.place.toNat (by omega) hpe.symm v).mono fun e w' ⟨h1, h2, h3⟩ => ⟨h1, h2.as (by rw [hpe]; simp [St.updates, ho, St.setBank, hb]; rfl) rfl, h3⟩
      · exact (ufill_1 hr hb ho st.place.toNat (by omega) hpe.symm v).mono fun e w' ⟨h1, h2, h3⟩ => ⟨h1, h2.as (by rw [hpe]; simp [St.updates, ho, St.setBank, hb]; rfl) rfl, h3⟩
  clear hb
  go_enter Tryz.func153, Tryz.ntmps153
  go_wp2_with fail
  refine Calls.mono HK.out ?_
  rintro e w1 ⟨rfl, hr1, k1⟩
  go_wp2
  (first | go_end0 | refine bodyPost_ret (results_none rfl _ _ _) rfl ?_)
  exact ⟨rfl, Went.mk hr1 k1⟩

end Go.Proofs.YtommhbidkoeifaaGreat
