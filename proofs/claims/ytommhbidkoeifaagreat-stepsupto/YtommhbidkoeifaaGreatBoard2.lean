/- The program's board: one cycle for timer and watch. -/
import Derived.Test.YtommhbidkoeifaaGreatBoard1
import Derived.Deep.LoopGhost
namespace Go.Proofs.YtommhbidkoeifaaGreat
open Go.RowKit
set_option linter.unusedVariables false

theorem ta_tt (v : Value) (w : World) : (Instr.typeAssert (.iface 114 v) 139 114 true).run Tryz.prog w = .ok (.tuple #[v, .bool true]) w := by kernel_rfl
theorem ta_wt (v : Value) (w : World) : (Instr.typeAssert (.iface 117 v) 139 114 true).run Tryz.prog w = .ok (.tuple #[.pointer none, .bool false]) w := by kernel_rfl
theorem ta_ww (v : Value) (w : World) : (Instr.typeAssert (.iface 117 v) 139 117 true).run Tryz.prog w = .ok (.tuple #[v, .bool true]) w := by kernel_rfl

/-- What is due is taken out, one behind the other, k rounds at most. -/
def tk : Nat → St → Ext → Option (St × Ext)
  | 0, S, E => none
  | k + 1, S, E => match E.due with
    | [] => some (S, E)
    | d :: r => if E.now < d.at_ then some (S, E) else if d.wt = true then tk k (S.reset 2) { E with due := r } else tk k { S with flag := true } { E with next := E.now + S.period, due := putD r ⟨false, E.now + S.period⟩ }

theorem DsOk.tail {d : Du} {r : List Du} (h : DsOk (d :: r)) : DsOk r := by
  rcases h with h | ⟨d', h⟩ | ⟨d0, d1, h, _⟩
  · cases h
  · cases h; exact Or.inl rfl
  · cases h; exact Or.inr (Or.inl ⟨_, rfl⟩)

theorem DsOk.len {ds : List Du} (h : DsOk ds) : ds.length ≤ 2 := by
  rcases h with rfl | ⟨d', rfl⟩ | ⟨d0, d1, rfl, _⟩ <;> simp

theorem DsOk.put {ds : List Du} (h : DsOk ds) (d : Du) : DsOk (putD ds d) := by
  unfold putD
  rcases dropD_len d.wt h with e | ⟨d', e, hw⟩
  · rw [e]; exact Or.inr (Or.inl ⟨d, rfl⟩)
  · rw [e]
    unfold pushD
    simp only
    split
    · exact Or.inr (Or.inr ⟨d, d', rfl, hw⟩)
    · exact Or.inr (Or.inr ⟨d', d, rfl, by rw [hw]; simp⟩)

set_option maxRecDepth 100000 in
set_option maxHeartbeats 2000000 in
theorem xtick_walk {l : XL} {st : St} {ex : Ext} {w : World} (hr : XRep l st ex w) (hd : DsOk ex.due) (n0 : 0 ≤ ex.now) (n1 : ex.now < 4611686018427387903) (p0 : 0 ≤ st.period) (p1 : st.period ≤ 255) (hb : st.bank = 0 ∨ st.bank = 1) (k : Nat) (T : St) (F : Ext) (ht : tk k st { ex with now := ex.now + 1 } = some (T, F)) :
    Calls Tryz.prog 74 #[.pointer (some ⟨l.g, 0, none⟩)] w fun e w' => e = .returned (.tuple #[]) ∧ Went l T F w w' := by
  have c1 := hr.c_ck
  have c2 := hr.c_now
  have f2 := hr.f_now
  have hr0 := hr.set_now (ex.now + 1)
  have k0 : Kept l.own w (w.setCell ⟨l.ck, 0, none⟩ (.int .i64 (ex.now + 1))) := (Kept.refl _ _).ck _ _
  have HT : Hid _ := ht
  have HB : Hid _ := hb
  have HR : Hid _ := hr0
  have hnot : ∀ (x : Bool) (w : World), (Op.unary .not (.bool x)).run Tryz.prog w = .ok (.bool (!x)) w := fun _ _ => rfl
  have t1 := ta_tt
  have t2 := ta_wt
  have t3 := ta_ww
  clear ht hb hr0
  go_enter Tryz.func74, Tryz.ntmps74
  go_wp2
  go_loopg [2, 3, 4, 5] k (fun k a b c d wx => ∃ (l' : XL) (S : St) (E : Ext), tk k S E = some (T, F) ∧ Grew l l' w ∧ XRep l' S E wx ∧ Kept l.own w wx ∧ DsOk E.due ∧ 0 ≤ E.now ∧ E.now < 4611686018427387904 ∧ 0 ≤ S.period ∧ S.period ≤ 255 ∧ (S.bank = 0 ∨ S.bank = 1))
  case atStart => exact ⟨l, st, _, HT.out, Grew.refl l w, HR.out, k0, hd, by show 0 ≤ ex.now + 1; omega, by show ex.now + 1 < _; omega, p0, p1, HB.out⟩
  case round =>
    obtain ⟨l', S, E, htk, gl, rl, kl, hdl, m0, m1, q0, q1, hbl⟩ := hrel
    clear HT HR HB
    have e1 := gl.g
    have e2 := gl.ck
    have HS : Hid (∀ W, Kept (fun _ => False) wr W → W.cell? ⟨l.g, 10, none⟩ = some (.pointer (some ⟨l.ck, 0, none⟩)) ∧ W.cell? ⟨l.ck, 0, none⟩ = some (.int .i64 E.now)) := fun W hW => by
      have a1 := (rl.kept hW (fun _ _ x => x)).c_ck
      have a2 := (rl.kept hW (fun _ _ x => x)).c_now
      rw [e1, e2] at a1
      rw [e2] at a2
      exact ⟨a1, a2⟩
    obtain ⟨gj, hgj⟩ : ∃ gj, gk = gj + 1 := by
      cases gk with
      | zero => cases htk
      | succ j => exact ⟨j, rfl⟩
    subst hgj
    by_cases hnone : E.due = [] ∨ ∃ d r, E.due = d :: r ∧ E.now < d.at_
    · have HTF : Hid (S = T ∧ E = F) := by
        unfold tk at htk
        rcases hnone with h | ⟨d, r, h, h2⟩
        · rw [h] at htk; simp only [Option.some.injEq, Prod.mk.injEq] at htk; exact htk
        · rw [h] at htk; simp only [if_pos h2, Option.some.injEq, Prod.mk.injEq] at htk; exact htk
      have HC : Hid (∀ W, Kept (fun _ => False) wr W → Calls Tryz.prog 88 #[.pointer (some ⟨l.ck, 1, none⟩), .int .i64 E.now] W fun e w' => e = .returned (.tuple #[.nilIface, .bool false]) ∧ w' = W) := fun W hW => by
        have hc := qTake_none (rl.kept hW (fun _ _ x => x)) E.now hnone hdl.len
        rw [e2] at hc
        exact hc
      have HFIN : Hid (∀ W, Kept (fun _ => False) wr W → Went l T F w W) := fun W hW => by
        rw [← HTF.out.1, ← HTF.out.2]
        exact ⟨l', gl, rl.kept hW (fun _ _ x => x), kl.trans (hW.wide (fun _ x => x.elim))⟩
      clear htk hnone e1 e2 kl gl rl
      go_wp2
      go_region_held3 (fun W => W.cell? ⟨l.g, 10, none⟩ = some (.pointer (some ⟨l.ck, 0, none⟩)) ∧ W.cell? ⟨l.ck, 0, none⟩ = some (.int .i64 E.now)) (first | (apply HS.out; (repeat (with_reducible first | apply Kept.alloc | apply Kept.drewN | apply Kept.drew | apply Kept.nb | apply Kept.g | apply Kept.bs | apply Kept.ck | apply Kept.bk | apply Kept.tm | apply Kept.wa | apply Kept.po | apply Kept.up | apply Kept.re | apply Kept.me | refine Kept.setCell ?_ (Or.inr (Nat.le_refl _)) _ | refine Kept.setCell ?_ (Or.inr (by omega)) _ | exact k1 | exact k2 | exact k3 | exact Kept.refl _ _)); done) | go_keep) (first | (go_at_call 88; refine (HC.out _ (by (repeat (with_reducible first | apply Kept.alloc | apply Kept.drewN | apply Kept.drew | apply Kept.nb | apply Kept.g | apply Kept.bs | apply Kept.ck | apply Kept.bk | apply Kept.tm | apply Kept.wa | apply Kept.po | apply Kept.up | apply Kept.re | apply Kept.me | refine Kept.setCell ?_ (Or.inr (Nat.le_refl _)) _ | refine Kept.setCell ?_ (Or.inr (by omega)) _ | exact k1 | exact k2 | exact k3 | exact Kept.refl _ _)))).mono ?_; rintro e w1 ⟨rfl, rfl⟩))
      all_goals
        go_wp2
        (first | go_end0 | refine bodyPost_ret (results_none rfl _ _ _) rfl ?_)
        exact ⟨rfl, HFIN.out _ (by (repeat (with_reducible first | apply Kept.alloc | apply Kept.drewN | apply Kept.drew | apply Kept.nb | apply Kept.g | apply Kept.bs | apply Kept.ck | apply Kept.bk | apply Kept.tm | apply Kept.wa | apply Kept.po | apply Kept.up | apply Kept.re | apply Kept.me | refine Kept.setCell ?_ (Or.inr (Nat.le_refl _)) _ | refine Kept.setCell ?_ (Or.inr (by omega)) _ | exact k1 | exact k2 | exact k3 | exact Kept.refl _ _)))⟩
    · obtain ⟨d, r, hdue, hle⟩ : ∃ d r, E.due = d :: r ∧ d.at_ ≤ E.now := by
        cases hE : E.due with
        | nil => exact absurd (Or.inl hE) hnone
        | cons d r =>
          refine ⟨d, r, rfl, ?_⟩
          rcases Int.lt_or_le E.now d.at_ with x | x
          · exact absurd (Or.inr ⟨d, r, hE, x⟩) hnone
          · exact x
      have hdr : DsOk r := by rw [hdue] at hdl; exact hdl.tail
      have HC : Hid (∀ W, Kept (fun _ => False) wr W → Calls Tryz.prog 88 #[.pointer (some ⟨l.ck, 1, none⟩), .int .i64 E.now] W fun e w' => e = .returned (.tuple #[whatV l' d.wt, .bool true]) ∧ XRep l' S { E with due := r } w' ∧ Kept l.own w w' ∧ (w'.cell? ⟨l.g, 10, none⟩ = some (.pointer (some ⟨l.ck, 0, none⟩)) ∧ w'.cell? ⟨l.ck, 0, none⟩ = some (.int .i64 E.now))) := fun W hW => by
        have hc := qTake_some (rl.kept hW (fun _ _ x => x)) E.now hdue hle hdl.len
        rw [e2] at hc
        refine hc.mono fun e w' ⟨h1, h2, h3⟩ => ?_
        have a1 := h2.c_ck
        have a2 := h2.c_now
        rw [e1, e2] at a1
        rw [e2] at a2
        have kW := kl.trans (hW.wide (fun _ x => x.elim))
        exact ⟨h1, h2, gl.kept kW.size kW h3, a1, a2⟩
      cases hwt : d.wt
      · have HTK : Hid (tk gj { S with flag := true } { E with next := E.now + S.period, due := putD r ⟨false, E.now + S.period⟩ } = some (T, F)) := by
          unfold tk at htk
          rw [hdue] at htk
          simp only [if_neg (show ¬ E.now < d.at_ by omega), hwt, Bool.false_eq_true, if_false] at htk
          exact htk
        rw [hwt] at HC
        have HC2 : Hid (∀ W, Kept (fun _ => False) wr W → Calls Tryz.prog 88 #[.pointer (some ⟨l.ck, 1, none⟩), .int .i64 E.now] W fun e w' => e = .returned (.tuple #[.iface 114 (.pointer (some ⟨l.tm, 0, none⟩)), .bool true]) ∧ XRep l' S { E with due := r } w' ∧ Kept l.own w w' ∧ (w'.cell? ⟨l.g, 10, none⟩ = some (.pointer (some ⟨l.ck, 0, none⟩)) ∧ w'.cell? ⟨l.ck, 0, none⟩ = some (.int .i64 E.now))) := fun W hW => by
          have h := HC.out W hW
          have e3 : whatV l' false = .iface 114 (.pointer (some ⟨l.tm, 0, none⟩)) := by rw [← gl.tm]; rfl
          rw [e3] at h
          exact h
        clear HC htk hnone hwt hle hdue
        go_wp2
        go_region_held3 (fun W => W.cell? ⟨l.g, 10, none⟩ = some (.pointer (some ⟨l.ck, 0, none⟩)) ∧ W.cell? ⟨l.ck, 0, none⟩ = some (.int .i64 E.now)) (first | assumption | (apply HS.out; (repeat (with_reducible first | apply Kept.alloc | apply Kept.drewN | apply Kept.drew | apply Kept.nb | apply Kept.g | apply Kept.bs | apply Kept.ck | apply Kept.bk | apply Kept.tm | apply Kept.wa | apply Kept.po | apply Kept.up | apply Kept.re | apply Kept.me | refine Kept.setCell ?_ (Or.inr (Nat.le_refl _)) _ | refine Kept.setCell ?_ (Or.inr (by omega)) _ | exact k1 | exact k2 | exact k3 | exact Kept.refl _ _)); done) | go_keep) (first | (go_at_call 88; refine (HC2.out _ (by (repeat (with_reducible first | apply Kept.alloc | apply Kept.drewN | apply Kept.drew | apply Kept.nb | apply Kept.g | apply Kept.bs | apply Kept.ck | apply Kept.bk | apply Kept.tm | apply Kept.wa | apply Kept.po | apply Kept.up | apply Kept.re | apply Kept.me | refine Kept.setCell ?_ (Or.inr (Nat.le_refl _)) _ | refine Kept.setCell ?_ (Or.inr (by omega)) _ | exact k1 | exact k2 | exact k3 | exact Kept.refl _ _)))).mono ?_; rintro e w1 ⟨rfl, rx, kx, hkeep⟩))
        all_goals
          have hring := tring_any rx hdr m0 m1 q0 q1
          rw [gl.tm] at hring
          have HRI : Hid _ := hring
          clear hring hkeep
          go_wp2_with fail
          refine Calls.mono HRI.out ?_
          rintro e w2 ⟨rfl, l2, g2', r2, k2'⟩
          have g2 : Grew l l2 w := gl.trans kx.size g2'
          have k2 : Kept l.own w w2 := gl.kept kx.size kx k2'
          clear g2' k2' HRI
          go_wp2
          go_roundg gj
          case measure => omega
          case rel => exact ⟨l2, _, _, HTK.out, g2, r2, k2, hdr.put _, m0, m1, q0, q1, hbl⟩
      · have HTK : Hid (tk gj (S.reset 2) { E with due := r } = some (T, F)) := by
          unfold tk at htk
          rw [hdue] at htk
          simp only [if_neg (show ¬ E.now < d.at_ by omega), hwt, if_true] at htk
          exact htk
        rw [hwt] at HC
        have HC2 : Hid (∀ W, Kept (fun _ => False) wr W → Calls Tryz.prog 88 #[.pointer (some ⟨l.ck, 1, none⟩), .int .i64 E.now] W fun e w' => e = .returned (.tuple #[.iface 117 (.pointer (some ⟨l.wa, 0, none⟩)), .bool true]) ∧ XRep l' S { E with due := r } w' ∧ Kept l.own w w' ∧ (w'.cell? ⟨l.g, 10, none⟩ = some (.pointer (some ⟨l.ck, 0, none⟩)) ∧ w'.cell? ⟨l.ck, 0, none⟩ = some (.int .i64 E.now))) := fun W hW => by
          have h := HC.out W hW
          have e3 : whatV l' true = .iface 117 (.pointer (some ⟨l.wa, 0, none⟩)) := by rw [← gl.wa]; rfl
          rw [e3] at h
          exact h
        obtain ⟨z1, z2, z3⟩ := reset_same S 2
        have zb := (reset_rst S 2).2.2
        have HQ : Hid (0 ≤ (S.reset 2).period ∧ (S.reset 2).period ≤ 255 ∧ ((S.reset 2).bank = 0 ∨ (S.reset 2).bank = 1)) := ⟨by rw [z1]; exact q0, by rw [z1]; exact q1, by rw [zb]; exact hbl⟩
        clear HC htk hnone hwt hle hdue z1 z2 z3 zb
        go_wp2
        go_region_held3 (fun W => W.cell? ⟨l.g, 10, none⟩ = some (.pointer (some ⟨l.ck, 0, none⟩)) ∧ W.cell? ⟨l.ck, 0, none⟩ = some (.int .i64 E.now)) (first | assumption | (apply HS.out; (repeat (with_reducible first | apply Kept.alloc | apply Kept.drewN | apply Kept.drew | apply Kept.nb | apply Kept.g | apply Kept.bs | apply Kept.ck | apply Kept.bk | apply Kept.tm | apply Kept.wa | apply Kept.po | apply Kept.up | apply Kept.re | apply Kept.me | refine Kept.setCell ?_ (Or.inr (Nat.le_refl _)) _ | refine Kept.setCell ?_ (Or.inr (by omega)) _ | exact k1 | exact k2 | exact k3 | exact Kept.refl _ _)); done) | go_keep) (first | (go_at_call 88; refine (HC2.out _ (by (repeat (with_reducible first | apply Kept.alloc | apply Kept.drewN | apply Kept.drew | apply Kept.nb | apply Kept.g | apply Kept.bs | apply Kept.ck | apply Kept.bk | apply Kept.tm | apply Kept.wa | apply Kept.po | apply Kept.up | apply Kept.re | apply Kept.me | refine Kept.setCell ?_ (Or.inr (Nat.le_refl _)) _ | refine Kept.setCell ?_ (Or.inr (by omega)) _ | exact k1 | exact k2 | exact k3 | exact Kept.refl _ _)))).mono ?_; rintro e w1 ⟨rfl, rx, kx, hkeep⟩))
        all_goals
          have hre := xreset_yes rx 2 (Or.inl rfl) hbl
          rw [gl.g] at hre
          have HRE : Hid _ := hre
          clear hre hkeep
          go_wp2_with fail
          refine Calls.mono HRE.out ?_
          rintro e w2 ⟨rfl, r2, k2'⟩
          have k2 : Kept l.own w w2 := gl.kept kx.size kx k2'
          clear k2' HRE
          go_wp2
          go_roundg gj
          case measure => omega
          case rel => exact ⟨l', _, _, HTK.out, gl, r2, k2, hdr, m0, m1, HQ.out.1, HQ.out.2.1, HQ.out.2.2⟩

end Go.Proofs.YtommhbidkoeifaaGreat
