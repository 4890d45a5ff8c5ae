/- Of several texts, one behind the other. -/
import Derived.Test.YtikdbpphbdbdnaaBa
/- What the watch is for, in plain mathematics: of any 252 cycles in which the processor works one feeds it. No program is named here. -/
namespace Go.Proofs.Ytikdbpphbdbdnaa

theorem reset_age (st : St) (c : Int) : (st.reset c).age = st.age := by
  unfold St.reset St.setStrikes
  split
  · split <;> rfl
  · rfl

theorem keys_age (st : St) (v : Int) : (st.keys v).age = st.age ∨ v = 105 := by
  unfold St.keys
  split
  · rename_i h; exact Or.inr h.1
  · exact Or.inl rfl

theorem updates_age (st : St) (a v : Int) : (st.updates a v).age = st.age := by
  unfold St.updates St.setBank St.setStrikes
  repeat' split
  all_goals rfl

theorem write_age (st : St) (a v : Int) : (st.write a v).age = st.age ∨ (a = 195 ∧ v = 105) := by
  unfold St.write
  split
  · exact Or.inl rfl
  split
  · exact Or.inl rfl
  split
  · exact Or.inl rfl
  split
  · rename_i h
    rcases keys_age st v with x | x
    · exact Or.inl x
    · exact Or.inr ⟨h, x⟩
  split
  · split <;> exact Or.inl rfl
  split
  · exact Or.inl rfl
  split
  · exact Or.inl (updates_age st a v)
  · exact Or.inl rfl

theorem takes_age (st : St) (op n : Int) : (st.takes op n).age = st.age := by
  unfold St.takes
  repeat' split
  all_goals rfl

/-- Is it the write of 0x69 at 0xC3? -/
def feeds (c : Cy) : Prop := c.kind = 6 ∧ c.addr = 195 ∧ c.data = 105

theorem asks_age (st : St) (op at_ : Int) : (st.asks op at_).1.age = st.age ∨ feeds (st.asks op at_).2 := by
  unfold St.asks
  split
  · rcases write_age st (st.target op at_) st.a with x | x
    · exact Or.inl x
    · exact Or.inr ⟨rfl, x.1, x.2⟩
  · exact Or.inl (takes_age st _ _)

theorem alone_age (st : St) (op : Int) : (st.alone op).age = st.age := by
  unfold St.alone
  repeat' split
  all_goals rfl

theorem jumps_age (st : St) (op n : Int) : (st.jumps op n).age = st.age := by
  unfold St.jumps
  repeat' split
  all_goals rfl

theorem works_age (st : St) : st.works.1.age = st.age ∨ feeds st.works.2 := by
  unfold St.works
  split
  · exact Or.inl rfl
  split
  · left
    show (if opLen st.op = 3 then _ else _ : St).age = st.age
    split
    · rfl
    · exact jumps_age _ _ _
  split
  · exact asks_age { st with phase := 0 } _ _
  · left
    show (if opLen (st.next 3).2.data = 0 then _ else if opLen (st.next 3).2.data = 1 then _ else _ : St).age = st.age
    split
    · exact reset_age _ 4
    split
    · exact alone_age _ _
    · rfl

/-- The kind of a cycle in which the processor works. -/
theorem works_kind (st : St) : 2 ≤ st.works.2.kind ∧ st.works.2.kind ≤ 6 := by
  unfold St.works St.asks St.next
  repeat' split
  all_goals first | exact (by decide : (2 : Int) ≤ 2 ∧ (2 : Int) ≤ 6) | exact (by decide : (2 : Int) ≤ 3 ∧ (3 : Int) ≤ 6) | exact (by decide : (2 : Int) ≤ 4 ∧ (4 : Int) ≤ 6) | exact (by decide : (2 : Int) ≤ 5 ∧ (5 : Int) ≤ 6) | exact (by decide : (2 : Int) ≤ 6 ∧ (6 : Int) ≤ 6)

/-- What a reset's rst says: where it is not 0 the board is held. -/
theorem works_held (st : St) (h : st.rst = 0) (h2 : ¬ st.works.1.rst = 0) : st.works.1.left = 4 := by
  have key : ∀ s : St, s.rst = 0 → ∀ v, ¬ (s.keys v).rst = 0 → (s.keys v).left = 4 := fun s hs v hv => by
    unfold St.keys at hv ⊢
    split at hv
    · rename_i h1
      rw [if_pos h1]
      split at hv
      · rename_i h3
        rw [if_pos h3]
        exact (reset_rst _ 3).2.1
      · exact absurd hs hv
    · exact absurd hs hv
  have wr : ∀ s : St, s.rst = 0 → ∀ a v, ¬ (s.write a v).rst = 0 → (s.write a v).left = 4 := fun s hs a v hv => by
    unfold St.write at hv ⊢
    by_cases e0 : a < 128
    · rw [if_pos e0] at hv; exact absurd hs hv
    rw [if_neg e0] at hv ⊢
    by_cases e1 : a = 192
    · rw [if_pos e1] at hv; exact absurd hs hv
    rw [if_neg e1] at hv ⊢
    by_cases e2 : a = 194
    · rw [if_pos e2] at hv; exact absurd hs hv
    rw [if_neg e2] at hv ⊢
    by_cases e3 : a = 195
    · rw [if_pos e3] at hv ⊢; exact key s hs v hv
    rw [if_neg e3] at hv ⊢
    by_cases e4 : a = 196
    · rw [if_pos e4] at hv
      split at hv <;> exact absurd hs hv
    rw [if_neg e4] at hv ⊢
    by_cases e5 : a = 197
    · rw [if_pos e5] at hv; exact absurd hs hv
    rw [if_neg e5] at hv ⊢
    by_cases e6 : 199 ≤ a
    · rw [if_pos e6, (updates_calm s a v).1] at hv; exact absurd hs hv
    · rw [if_neg e6] at hv; exact absurd hs hv
  have tk : ∀ s : St, s.rst = 0 → ∀ op n, (s.takes op n).rst = 0 := fun s hs op n => by
    unfold St.takes
    repeat' split
    all_goals exact hs
  have al : ∀ s : St, s.rst = 0 → ∀ op, (s.alone op).rst = 0 := fun s hs op => by
    unfold St.alone
    repeat' split
    all_goals exact hs
  have jm : ∀ s : St, s.rst = 0 → ∀ op n, (s.jumps op n).rst = 0 := fun s hs op n => by
    unfold St.jumps
    repeat' split
    all_goals exact hs
  unfold St.works at h2 ⊢
  by_cases c1 : st.phase = 3 ∧ st.flag = false
  · rw [if_pos c1] at h2; exact absurd h h2
  rw [if_neg c1] at h2 ⊢
  by_cases c2 : st.phase = 1
  · rw [if_pos c2] at h2
    exfalso
    apply h2
    show (if opLen st.op = 3 then _ else _ : St).rst = 0
    split
    · exact h
    · exact jm { (st.next 4).1 with phase := 0 } h _ _
  rw [if_neg c2] at h2 ⊢
  by_cases c3 : st.phase = 2
  · rw [if_pos c3] at h2 ⊢
    unfold St.asks at h2 ⊢
    by_cases c4 : st.op = 3 ∨ st.op = 10
    · rw [if_pos c4] at h2 ⊢
      exact wr { st with phase := 0 } h _ _ h2
    · rw [if_neg c4] at h2
      exact absurd (tk { st with phase := 0 } h _ _) h2
  rw [if_neg c3] at h2 ⊢
  show (if opLen (st.next 3).2.data = 0 then _ else if opLen (st.next 3).2.data = 1 then _ else _ : St).left = 4
  replace h2 : ¬ (if opLen (st.next 3).2.data = 0 then _ else if opLen (st.next 3).2.data = 1 then _ else _ : St).rst = 0 := h2
  by_cases c5 : opLen (st.next 3).2.data = 0
  · rw [if_pos c5]
    exact (reset_rst _ 4).2.1
  · rw [if_neg c5] at h2
    exfalso
    apply h2
    split
    · exact al { (st.next 3).1 with phase := 0, op := (st.next 3).2.data } h _
    · exact h

/-- How many cycles have gone by, one behind the other, in which the processor worked and the watch was not fed. -/
def since (n : Int) (c : Cy) : Int := if (2 ≤ c.kind ∧ c.kind ≤ 6) ∧ ¬ (c.kind = 6 ∧ c.addr = 195 ∧ c.data = 105) then n + 1 else 0

/-- While the board runs they are no more than the watch's age. -/
structure Since (n : Int) (st : St) : Prop where
  lo : 0 ≤ n
  hi : n ≤ 251
  run : st.left = 0 → 0 ≤ st.bank → n ≤ st.age

theorem Since.zero {st : St} (hi : Inv st) : Since 0 st := ⟨by omega, by omega, fun _ _ => hi.age.1⟩

theorem since_step {st : St} (hi : Inv st) (i : In) (hp : 0 ≤ i.port ∧ i.port ≤ 255) (n : Int) (h : Since n st) : Since (since n (st.step i).2) (st.step i).1 := by
  have hI := hi.step i hp
  have hs := hi.supply i hp
  have e1 : (st.supply i).left = st.left ∧ (st.supply i).bank = st.bank ∧ (st.supply i).age = st.age := by
    unfold St.supply
    repeat' split
    all_goals exact ⟨rfl, rfl, rfl⟩
  unfold St.step at hI ⊢
  split
  · rename_i c
    rw [if_pos c] at hI
    exact Since.zero hI
  rename_i c1
  rw [if_neg c1] at hI
  split
  · rename_i c
    rw [if_pos c] at hI
    exact Since.zero hI
  rename_i c2
  rw [if_neg c2] at hI
  split
  · rename_i c
    rw [if_pos c] at hI
    exact Since.zero hI
  rename_i c3
  rw [if_neg c3] at hI
  split
  · rename_i c
    rw [if_pos c] at hI
    exact Since.zero hI
  rename_i c4
  rw [if_neg c4] at hI
  have hl0 : st.left = 0 := by have := hs.left; rw [e1.1] at this c3; omega
  have hb0 : 0 ≤ st.bank := by rw [e1.2.1] at c4; omega
  have hn := h.run hl0 hb0
  have ha : st.age ≤ 250 := hi.aged hl0
  have hlo := h.lo
  generalize hS : st.supply i = S at *
  obtain ⟨el, eb, ea⟩ := e1
  unfold since
  split
  · rename_i hc
    refine ⟨by omega, by omega, fun hl _ => ?_⟩
    have hw := works_age { S with rst := 0 }
    have hrs := works_held { S with rst := 0 } rfl
    have hcalm := works_calm { S with rst := 0 }
    have hr1 : S.runs.1 = if ({ S with rst := 0 } : St).works.1.rst = 0 then ({ S with rst := 0 } : St).works.1.ticks.ages else ({ S with rst := 0 } : St).works.1 := rfl
    have hc1 : S.runs.2.kind = ({ S with rst := 0 } : St).works.2.kind ∧ S.runs.2.addr = ({ S with rst := 0 } : St).works.2.addr ∧ S.runs.2.data = ({ S with rst := 0 } : St).works.2.data := ⟨rfl, rfl, rfl⟩
    have hage : ({ S with rst := 0 } : St).works.1.age = st.age := by
      rcases hw with x | x
      · rw [x]; exact ea
      · exact absurd ⟨hc1.1.trans x.1, hc1.2.1.trans x.2.1, hc1.2.2.trans x.2.2⟩ hc.2
    rw [hr1] at hl ⊢
    by_cases hz : ({ S with rst := 0 } : St).works.1.rst = 0
    · rw [if_pos hz] at hl ⊢
      have e2 := ticks_other ({ S with rst := 0 } : St).works.1
      unfold St.ages at hl ⊢
      split at hl
      · rw [(reset_rst _ 2).2.1] at hl; omega
      · rename_i h250
        rw [if_neg h250]
        show n + 1 ≤ ({ S with rst := 0 } : St).works.1.ticks.age + 1
        rw [e2.2.2, hage]
        omega
    · rw [if_neg hz] at hl
      rw [hrs hz] at hl
      omega
  · exact Since.zero hI

end Go.Proofs.Ytikdbpphbdbdnaa

/- The bank that was chosen does not change, in plain mathematics. No program is named here. -/
namespace Go.Proofs.Ytikdbpphbdbdnaa

/-- The banks of two states, but for the one that was not chosen. -/
def Safe (st st' : St) : Prop := (st.bank = 0 → st'.b0 = st.b0) ∧ (st.bank = 1 → st'.b1 = st.b1)

theorem Safe.refl (st : St) : Safe st st := ⟨fun _ => rfl, fun _ => rfl⟩

theorem Safe.of_eq {st st' : St} (h0 : st'.b0 = st.b0) (h1 : st'.b1 = st.b1) : Safe st st' := ⟨fun _ => h0, fun _ => h1⟩

theorem reset_banks (st : St) (c : Int) : (st.reset c).b0 = st.b0 ∧ (st.reset c).b1 = st.b1 := by
  unfold St.reset St.setStrikes
  split
  · split <;> exact ⟨rfl, rfl⟩
  · exact ⟨rfl, rfl⟩

theorem keys_banks (st : St) (v : Int) : (st.keys v).b0 = st.b0 ∧ (st.keys v).b1 = st.b1 := by
  unfold St.keys
  split
  · split
    · exact reset_banks _ 3
    · exact ⟨rfl, rfl⟩
  · exact ⟨rfl, rfl⟩

theorem setBank_safe (st : St) (f : Nat → Int) : Safe st (st.setBank (1 - st.bank) f) := by
  unfold St.setBank
  split
  · rename_i h
    exact ⟨fun x => by omega, fun _ => rfl⟩
  · rename_i h
    exact ⟨fun _ => rfl, fun x => by omega⟩

theorem updates_safe (st : St) (a v : Int) : Safe st (st.updates a v) := by
  unfold St.updates
  split
  · split
    · exact setBank_safe { st with opn := true } _
    · exact Safe.refl st
  split
  · exact Safe.refl st
  split
  · split
    · exact setBank_safe st _
    · exact Safe.refl st
  split
  · split
    · unfold St.setStrikes
      split <;> exact Safe.refl st
    · exact Safe.refl st
  · exact Safe.refl st

theorem write_safe (st : St) (a v : Int) : Safe st (st.write a v) := by
  unfold St.write
  split
  · exact Safe.refl st
  split
  · exact Safe.refl st
  split
  · exact Safe.refl st
  split
  · exact Safe.of_eq (keys_banks st v).1 (keys_banks st v).2
  split
  · split <;> exact Safe.refl st
  split
  · exact Safe.refl st
  split
  · exact updates_safe st a v
  · exact Safe.refl st

theorem takes_banks (st : St) (op n : Int) : (st.takes op n).b0 = st.b0 ∧ (st.takes op n).b1 = st.b1 := by
  unfold St.takes
  repeat' split
  all_goals exact ⟨rfl, rfl⟩

theorem alone_banks (st : St) (op : Int) : (st.alone op).b0 = st.b0 ∧ (st.alone op).b1 = st.b1 := by
  unfold St.alone
  repeat' split
  all_goals exact ⟨rfl, rfl⟩

theorem jumps_banks (st : St) (op n : Int) : (st.jumps op n).b0 = st.b0 ∧ (st.jumps op n).b1 = st.b1 := by
  unfold St.jumps
  repeat' split
  all_goals exact ⟨rfl, rfl⟩

theorem works_safe (st : St) : Safe st st.works.1 := by
  unfold St.works
  split
  · exact Safe.refl st
  split
  · show Safe st (if opLen st.op = 3 then _ else _)
    split
    · exact Safe.refl st
    · exact Safe.of_eq (jumps_banks _ _ _).1 (jumps_banks _ _ _).2
  split
  · unfold St.asks
    split
    · exact write_safe { st with phase := 0 } _ _
    · exact Safe.of_eq (takes_banks _ _ _).1 (takes_banks _ _ _).2
  · show Safe st (if opLen (st.next 3).2.data = 0 then _ else if opLen (st.next 3).2.data = 1 then _ else _)
    split
    · exact Safe.of_eq (reset_banks _ 4).1 (reset_banks _ 4).2
    split
    · exact Safe.of_eq (alone_banks _ _).1 (alone_banks _ _).2
    · exact Safe.refl st

theorem ticks_banks (st : St) : st.ticks.b0 = st.b0 ∧ st.ticks.b1 = st.b1 := by
  unfold St.ticks
  repeat' split
  all_goals exact ⟨rfl, rfl⟩

theorem ages_banks (st : St) : st.ages.b0 = st.b0 ∧ st.ages.b1 = st.b1 := by
  unfold St.ages
  split
  · exact reset_banks _ 2
  · exact ⟨rfl, rfl⟩

theorem runs_safe (st : St) : Safe st st.runs.1 := by
  have h := works_safe { st with rst := 0 }
  show Safe st (if ({ st with rst := 0 } : St).works.1.rst = 0 then ({ st with rst := 0 } : St).works.1.ticks.ages else ({ st with rst := 0 } : St).works.1)
  split
  · have e1 := ages_banks ({ st with rst := 0 } : St).works.1.ticks
    have e2 := ticks_banks ({ st with rst := 0 } : St).works.1
    exact ⟨fun x => (e1.1.trans e2.1).trans (h.1 x), fun x => (e1.2.trans e2.2).trans (h.2 x)⟩
  · exact h

theorem boot_banks (st : St) : st.boot.b0 = st.b0 ∧ st.boot.b1 = st.b1 := by
  unfold St.boot
  split <;> exact ⟨rfl, rfl⟩

/-- One cycle: where the processor does not work no bank changes; where it works the one that was chosen does not. -/
theorem step_guard (st : St) (i : In) : ((¬ (2 ≤ (st.step i).2.kind ∧ (st.step i).2.kind ≤ 6)) → (st.step i).1.b0 = st.b0 ∧ (st.step i).1.b1 = st.b1) ∧ Safe st (st.step i).1 ∧ (st.bank < 0 → (st.step i).1.b0 = st.b0 ∧ (st.step i).1.b1 = st.b1) := by
  have es : (st.supply i).b0 = st.b0 ∧ (st.supply i).b1 = st.b1 ∧ (st.supply i).bank = st.bank := by
    unfold St.supply
    repeat' split
    all_goals exact ⟨rfl, rfl, rfl⟩
  obtain ⟨e0, e1, e2⟩ := es
  have quiet : ∀ s : St, s.b0 = (st.supply i).b0 → s.b1 = (st.supply i).b1 → ∀ c : Cy, ((¬ (2 ≤ c.kind ∧ c.kind ≤ 6)) → s.b0 = st.b0 ∧ s.b1 = st.b1) ∧ Safe st s ∧ (st.bank < 0 → s.b0 = st.b0 ∧ s.b1 = st.b1) := fun s h0 h1 c =>
    ⟨fun _ => ⟨h0.trans e0, h1.trans e1⟩, Safe.of_eq (h0.trans e0) (h1.trans e1), fun _ => ⟨h0.trans e0, h1.trans e1⟩⟩
  unfold St.step
  split
  · exact quiet _ (reset_banks _ 6).1 (reset_banks _ 6).2 _
  split
  · exact quiet _ (reset_banks _ 5).1 (reset_banks _ 5).2 _
  split
  · refine quiet _ ?_ ?_ _
    · show (if (st.supply i).left - 1 = 0 then _ else _ : St).b0 = _
      split
      · exact (boot_banks _).1
      · rfl
    · show (if (st.supply i).left - 1 = 0 then _ else _ : St).b1 = _
      split
      · exact (boot_banks _).2
      · rfl
  split
  · exact quiet _ rfl rfl _
  · rename_i c1 c2 c3 c4
    have hk := works_kind ({ st.supply i with rst := 0 } : St)
    have hr := runs_safe (st.supply i)
    refine ⟨fun h => absurd hk h, ⟨fun x => (hr.1 (e2.trans x)).trans e0, fun x => (hr.2 (e2.trans x)).trans e1⟩, fun x => ?_⟩
    rw [e2] at c4
    exact absurd x c4

end Go.Proofs.Ytikdbpphbdbdnaa

/- Behind a reset at least four cycles are held, then the board boots with the choice: in plain mathematics. No program is named here. -/
namespace Go.Proofs.Ytikdbpphbdbdnaa

/-- The board has just booted: the bank is the choice by what lies there now. -/
def Booted (st : St) : Prop := st.bank = chooseB (bankS st.b0) (bankS st.b1) st.s0 st.s1 ∧ st.pc = 130 ∧ st.phase = 0

/-- Strikes that become 0 first do not change the choice. -/
theorem choose_anew {a b : ByteArray} {m n : Int} (h : anewB a b m n = true) : chooseB a b 0 0 = chooseB a b m n := by
  unfold anewB at h
  simp only [Bool.and_eq_true, decide_eq_true_eq] at h
  unfold chooseB
  rw [if_pos h.1, fitB_zero, fitB_zero]
  split <;> rfl

theorem boot_booted (st : St) : Booted st.boot := by
  cases h : anewB (bankS st.b0) (bankS st.b1) st.s0 st.s1
  · have e : st.boot = { st with bank := chooseB (bankS st.b0) (bankS st.b1) st.s0 st.s1, a := 0, x := 0, pc := 130, zero := false, carry := false, phase := 0, period := 0, count := 0, flag := false, age := 0, window := 0, windowed := false, key := false, out := 0, opn := false, place := 0 } := by simp [St.boot, h]
    rw [e]
    exact ⟨rfl, rfl, rfl⟩
  · have e : st.boot = { st with s0 := 0, s1 := 0, bank := chooseB (bankS st.b0) (bankS st.b1) st.s0 st.s1, a := 0, x := 0, pc := 130, zero := false, carry := false, phase := 0, period := 0, count := 0, flag := false, age := 0, window := 0, windowed := false, key := false, out := 0, opn := false, place := 0 } := by simp [St.boot, h]
    rw [e]
    exact ⟨(choose_anew h).symm, rfl, rfl⟩

/-- h: how many cycles have been held, one behind the other. -/
structure Comes (h : Int) (st : St) : Prop where
  lo : 0 ≤ h
  held : 0 < st.left → 4 ≤ h + st.left
  up : st.left = 0 → 0 < h → 4 ≤ h ∧ Booted st

/-- The next count. -/
def heldN (h : Int) (c : Cy) : Int := if c.kind = 0 then h + 1 else 0

theorem supply_other (st : St) (i : In) : (st.supply i).left = st.left ∧ (st.supply i).bank = st.bank ∧ (st.supply i).pc = st.pc ∧ (st.supply i).phase = st.phase ∧ (st.supply i).b0 = st.b0 ∧ (st.supply i).b1 = st.b1 ∧ (st.supply i).s0 = st.s0 ∧ (st.supply i).s1 = st.s1 := by
  unfold St.supply
  repeat' split
  all_goals exact ⟨rfl, rfl, rfl, rfl, rfl, rfl, rfl, rfl⟩

/-- What runs leaves: nothing is held, or the board is held for four cycles. -/
theorem runs_left (st : St) (h : st.left = 0) : st.runs.1.left = 0 ∨ st.runs.1.left = 4 := by
  show (if ({ st with rst := 0 } : St).works.1.rst = 0 then ({ st with rst := 0 } : St).works.1.ticks.ages else ({ st with rst := 0 } : St).works.1).left = 0 ∨ (if ({ st with rst := 0 } : St).works.1.rst = 0 then ({ st with rst := 0 } : St).works.1.ticks.ages else ({ st with rst := 0 } : St).works.1).left = 4
  split
  · rename_i hz
    have e1 := works_calm { st with rst := 0 } hz
    have e2 := (ticks_other ({ st with rst := 0 } : St).works.1).1
    unfold St.ages
    split
    · exact Or.inr (reset_rst _ 2).2.1
    · left
      show ({ st with rst := 0 } : St).works.1.ticks.left = 0
      rw [e2, e1]
      exact h
  · rename_i hz
    exact Or.inr (works_held { st with rst := 0 } rfl hz)

/-- One cycle: the count goes on; a cycle that is not held is as it must be. -/
theorem comes_step {st : St} (hi : Inv st) (i : In) (h : Int) (hc : Comes h st) :
    Comes (heldN h (st.step i).2) (st.step i).1 ∧ ((i.volts < 2700 ∨ i.reset = true) → (st.step i).2.kind = 0) ∧
    (¬ (st.step i).2.kind = 0 → st.left = 0 ∧ ((st.step i).2.kind = 1 ↔ st.bank < 0) ∧ (0 < h → 4 ≤ h ∧ Booted st ∧ (0 ≤ st.bank → (st.step i).2.kind = 3 ∧ (st.step i).2.addr = 130 ∧ (st.step i).2.data = st.read 130))) := by
  obtain ⟨el, eb, epc, eph, e0, e1, es0, es1⟩ := supply_other st i
  have hlo := hc.lo
  have hl := hi.left
  have four : ∀ s : St, s.left = 4 → ∀ k, 0 ≤ k → Comes k s := fun s hs k hk => ⟨hk, fun _ => by omega, fun x => by omega⟩
  have hsup : i.volts < 2700 → (st.supply i).down = true := fun hv => by unfold St.supply; rw [if_pos hv]
  unfold St.step
  split
  · refine ⟨four _ (reset_rst _ 6).2.1 _ ?_, fun _ => rfl, fun x => absurd rfl x⟩
    show 0 ≤ h + 1
    omega
  rename_i c1
  split
  · refine ⟨four _ (reset_rst _ 5).2.1 _ ?_, fun _ => rfl, fun x => absurd rfl x⟩
    show 0 ≤ h + 1
    omega
  rename_i c2
  have noreset : ¬ (i.volts < 2700 ∨ i.reset = true) := fun x => by
    rcases x with x | x
    · exact c1 (hsup x)
    · exact c2 x
  split
  · rename_i c3
    refine ⟨?_, fun _ => rfl, fun x => absurd rfl x⟩
    have hh := hc.held (by omega)
    show Comes (h + 1) (if (st.supply i).left - 1 = 0 then _ else _)
    split
    · rename_i c4
      refine ⟨by omega, fun x => ?_, fun _ _ => ⟨by omega, boot_booted _⟩⟩
      have eL : ({ st.supply i with left := (st.supply i).left - 1 } : St).boot.left = (st.supply i).left - 1 := by
        unfold St.boot
        split <;> rfl
      rw [eL] at x
      omega
    · rename_i c4
      refine ⟨by omega, fun _ => ?_, fun x => ?_⟩
      · show 4 ≤ h + 1 + ((st.supply i).left - 1)
        omega
      · exact absurd x c4
  rename_i c3
  have hl0 : st.left = 0 := by omega
  split
  · rename_i c4
    have hz : Comes 0 (st.supply i) := ⟨Int.le_refl 0, fun x => by omega, fun _ x => absurd x (by decide)⟩
    refine ⟨hz, fun x => absurd x noreset, fun _ => ⟨hl0, ⟨fun _ => by omega, fun _ => rfl⟩, fun hpos => ⟨(hc.up hl0 hpos).1, (hc.up hl0 hpos).2, fun x => by omega⟩⟩⟩
  · rename_i c4
    have hk := works_kind ({ st.supply i with rst := 0 } : St)
    have hk' : 2 ≤ (st.supply i).runs.2.kind ∧ (st.supply i).runs.2.kind ≤ 6 := hk
    have hnz : ¬ (st.supply i).runs.2.kind = 0 := by omega
    refine ⟨?_, fun x => absurd x noreset, fun _ => ⟨hl0, ⟨fun x => by omega, fun x => by omega⟩, fun hpos => ⟨(hc.up hl0 hpos).1, (hc.up hl0 hpos).2, fun _ => ?_⟩⟩⟩
    · unfold heldN
      rw [if_neg hnz]
      rcases runs_left (st.supply i) (by omega) with x | x
      · exact ⟨Int.le_refl 0, fun y => by omega, fun _ y => absurd y (by decide)⟩
      · exact four _ x 0 (Int.le_refl 0)
    · obtain ⟨_, hbt, hpc, hph⟩ := hc.up hl0 hpos
      have hph' : ({ st.supply i with rst := 0 } : St).phase = 0 := by rw [← hph]; exact eph
      have hpc' : ({ st.supply i with rst := 0 } : St).pc = 130 := by rw [← hpc]; exact epc
      have ew : ({ st.supply i with rst := 0 } : St).works.2 = ⟨3, 130, ({ st.supply i with rst := 0 } : St).read 130, 0⟩ := by
        unfold St.works
        rw [if_neg (fun x => by rw [hph'] at x; exact absurd x.1 (by decide)), if_neg (by rw [hph']; decide), if_neg (by rw [hph']; decide)]
        show (⟨3, ({ st.supply i with rst := 0 } : St).pc, ({ st.supply i with rst := 0 } : St).read ({ st.supply i with rst := 0 } : St).pc, 0⟩ : Cy) = _
        rw [hpc']
      have er : ({ st.supply i with rst := 0 } : St).read 130 = st.read 130 := by
        unfold St.read St.inBank
        simp only [eb, e0, e1]
        rfl
      refine ⟨?_, ?_, ?_⟩
      · show ({ st.supply i with rst := 0 } : St).works.2.kind = 3
        rw [ew]
      · show ({ st.supply i with rst := 0 } : St).works.2.addr = 130
        rw [ew]
      · show ({ st.supply i with rst := 0 } : St).works.2.data = st.read 130
        rw [ew]
        exact er

end Go.Proofs.Ytikdbpphbdbdnaa
