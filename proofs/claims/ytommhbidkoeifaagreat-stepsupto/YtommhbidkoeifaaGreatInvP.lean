/- What holds of every board goes on holding, whatever a cycle does; no program is named here. -/
import Derived.Test.YtommhbidkoeifaaGreatModel
namespace Go.Proofs.YtommhbidkoeifaaGreat

theorem upd_bounds {f : Nat → Int} (h : ∀ i, 0 ≤ f i ∧ f i ≤ 255) (k : Nat) (v : Int) (hv : 0 ≤ v ∧ v ≤ 255) : ∀ i, 0 ≤ upd f k v i ∧ upd f k v i ≤ 255 := by
  intro i
  unfold upd
  split
  · exact hv
  · exact h i

theorem Inv.setA {st : St} (hi : Inv st) (n : Int) : Inv (st.setA n) := { hi with a := (by constructor <;> omega : 0 ≤ n % 256 ∧ n % 256 ≤ 255) }
theorem Inv.setX {st : St} (hi : Inv st) (n : Int) : Inv (st.setX n) := { hi with x := (by constructor <;> omega : 0 ≤ n % 256 ∧ n % 256 ≤ 255) }

theorem Inv.setStrikes {st : St} (hi : Inv st) (n : Int) : Inv (st.setStrikes n) := by
  unfold St.setStrikes
  split
  · exact { hi with }
  · exact { hi with }

theorem Inv.reset {st : St} (hi : Inv st) (c : Int) (h0 : 0 ≤ c) (h6 : c ≤ 6) : Inv (st.reset c) := by
  have h : Inv { st with cause := c, left := 4, rst := c } := { hi with cause := ⟨h0, h6⟩, left := (by decide : (0 : Int) ≤ 4 ∧ (4 : Int) ≤ 4), aged := fun h => absurd h (by decide : ¬ (4 : Int) = 0) }
  unfold St.reset
  split
  · exact h.setStrikes _
  · exact h

theorem Inv.keys {st : St} (hi : Inv st) (v : Int) : Inv (st.keys v) := by
  unfold St.keys
  split
  · split
    · exact Inv.reset (st := { st with key := (v == 150) }) { hi with } 3 (by decide) (by decide)
    · exact { hi with age := (by decide : (0 : Int) ≤ 0 ∧ (0 : Int) ≤ 251), aged := fun _ => (by decide : (0 : Int) ≤ 250) }
  · exact { hi with }

theorem Inv.setBank {st : St} (hi : Inv st) (k : Int) (f : Nat → Int) (hf : ∀ i, 0 ≤ f i ∧ f i ≤ 255) : Inv (st.setBank k f) := by
  unfold St.setBank
  split
  · exact { hi with b0 := hf }
  · exact { hi with b1 := hf }

theorem Inv.inBank {st : St} (hi : Inv st) (k : Int) (i : Nat) : 0 ≤ st.inBank k i ∧ st.inBank k i ≤ 255 := by
  unfold St.inBank
  split
  · exact hi.b0 i
  · exact hi.b1 i

theorem Inv.setPlace {st : St} (hi : Inv st) (n : Int) (h : 0 ≤ n ∧ n ≤ 63) : Inv { st with place := n } := { hi with place := h }

theorem Inv.updates {st : St} (hi : Inv st) (a v : Int) (hv : 0 ≤ v ∧ v ≤ 255) : Inv (st.updates a v) := by
  unfold St.updates
  split
  · split
    · exact (Inv.setBank (st := { st with opn := true }) { hi with } _ _ (fun _ => by decide)).setPlace 0 (by decide)
    · exact { hi with }
  · split
    · exact { hi with place := (by constructor <;> omega : 0 ≤ v % 64 ∧ v % 64 ≤ 63) }
    · split
      · split
        · exact (hi.setBank _ _ (upd_bounds (hi.inBank _) _ _ hv)).setPlace _ (by constructor <;> omega)
        · exact hi
      · split
        · split
          · exact hi.setStrikes 0
          · exact hi
        · exact hi

theorem Inv.write {st : St} (hi : Inv st) (a v : Int) (hv : 0 ≤ v ∧ v ≤ 255) : Inv (st.write a v) := by
  unfold St.write
  split
  · exact { hi with mem := upd_bounds hi.mem _ _ hv }
  split
  · exact { hi with period := hv, count := hv, cnt := fun h => (by exact h : 0 < v) }
  split
  · exact { hi with }
  split
  · exact hi.keys v
  split
  · split
    · rename_i h
      exact { hi with window := ⟨hv.1, h.2⟩ }
    · exact hi
  split
  · exact { hi with out := hv }
  split
  · exact hi.updates a v hv
  · exact hi

/-- What is read is a byte. -/
theorem read_bounds {st : St} (hi : Inv st) (hb : 0 ≤ st.bank) (a : Int) : 0 ≤ st.read a ∧ st.read a ≤ 255 := by
  have h1 := hi.mem a.toNat
  have h2 := hi.b0 (a - 128).toNat
  have h3 := hi.b1 (a - 128).toNat
  have h4 := hi.b0 st.place.toNat
  have h5 := hi.b1 st.place.toNat
  have h6 := hi.period
  have h7 := hi.count
  have h8 := hi.age
  have h9 := hi.window
  have h10 := hi.out
  have h11 := hi.inp
  have h12 := hi.place
  have h13 := hi.cause
  have h14 := hi.bank
  unfold St.read St.inBank flagN
  repeat' split
  all_goals omega

theorem Inv.alone {st : St} (hi : Inv st) (op : Int) : Inv (st.alone op) := by
  unfold St.alone
  split
  · exact hi.setX _
  split
  · exact hi.setA _
  split
  · exact hi.setX _
  split
  · exact hi.setX _
  split
  · exact { hi with phase := (by decide : (0 : Int) ≤ 3 ∧ (3 : Int) ≤ 3), ph2 := fun h => absurd h (by decide : ¬ (3 : Int) = 2) }
  · exact hi

theorem Inv.jumps {st : St} (hi : Inv st) (op n : Int) (hn : 0 ≤ n ∧ n ≤ 255) : Inv (st.jumps op n) := by
  unfold St.jumps
  split
  · exact hi.setA _
  split
  · exact { hi with pc := hn }
  · exact hi

theorem Inv.setCarry {st : St} (hi : Inv st) (c : Bool) : Inv { st with carry := c } := { hi with }

theorem Inv.takes {st : St} (hi : Inv st) (op n : Int) : Inv (st.takes op n) := by
  unfold St.takes
  split
  · exact (hi.setCarry _).setA _
  split
  · exact (hi.setCarry _).setA _
  split
  · exact hi.setA _
  split
  · exact hi.setA _
  split
  · exact hi.setA _
  · exact hi.setA _

theorem Inv.asks {st : St} (hi : Inv st) (op at_ : Int) : Inv (st.asks op at_).1 := by
  unfold St.asks
  split
  · exact hi.write _ _ hi.a
  · exact hi.takes _ _

theorem next_pc (st : St) (k : Int) : (st.next k).1 = { st with pc := (st.pc + 1) % 256 } := rfl

theorem Inv.next {st : St} (hi : Inv st) (k : Int) : Inv (st.next k).1 := { hi with pc := (by constructor <;> omega : 0 ≤ (st.pc + 1) % 256 ∧ (st.pc + 1) % 256 ≤ 255) }

theorem opLen_three {op : Int} (h : opLen op = 3) : 2 ≤ op ∧ op ≤ 10 := by
  unfold opLen at h
  split at h
  · omega
  split at h
  · omega
  split at h
  · assumption
  · omega

theorem Inv.works {st : St} (hi : Inv st) (hb : 0 ≤ st.bank) : Inv st.works.1 := by
  have hn := hi.next 4
  have hm := hi.next 3
  have hr := read_bounds hi hb st.pc
  have h0 : Inv { st with phase := 0 } := { hi with phase := (by decide : (0 : Int) ≤ 0 ∧ (0 : Int) ≤ 3), ph2 := fun h => absurd h (by decide : ¬ (0 : Int) = 2) }
  unfold St.works
  split
  · exact hi
  split
  · show Inv (if opLen st.op = 3 then _ else _)
    split
    · rename_i h3
      exact { hn with phase := (by decide : (0 : Int) ≤ 2 ∧ (2 : Int) ≤ 3), opd := hr, ph2 := fun _ => opLen_three h3 }
    · exact Inv.jumps (st := { (st.next 4).1 with phase := 0 }) { hn with phase := (by decide : (0 : Int) ≤ 0 ∧ (0 : Int) ≤ 3), ph2 := fun h => absurd h (by decide : ¬ (0 : Int) = 2) } _ _ hr
  split
  · exact h0.asks _ _
  · have hB : Inv { (st.next 3).1 with phase := 0, op := (st.next 3).2.data } := { hm with phase := (by decide : (0 : Int) ≤ 0 ∧ (0 : Int) ≤ 3), op := hr, ph2 := fun h => absurd h (by decide : ¬ (0 : Int) = 2) }
    show Inv (if opLen (st.next 3).2.data = 0 then _ else if opLen (st.next 3).2.data = 1 then _ else _)
    split
    · exact hB.reset 4 (by decide) (by decide)
    split
    · exact hB.alone _
    · exact { hm with phase := (by decide : (0 : Int) ≤ 1 ∧ (1 : Int) ≤ 3), op := hr, ph2 := fun h => absurd h (by decide : ¬ (1 : Int) = 2) }

theorem Inv.ticks {st : St} (hi : Inv st) : Inv st.ticks := by
  have h1 := hi.count
  have h2 := hi.period
  have h3 := hi.cnt
  unfold St.ticks
  split
  · rename_i hp
    split
    · exact { hi with count := h2, cnt := fun _ => (by omega : 1 ≤ st.period) }
    · exact { hi with count := (by have := h3 hp; constructor <;> omega : 0 ≤ st.count - 1 ∧ st.count - 1 ≤ 255), cnt := fun h => (by have := h3 hp; omega : 1 ≤ st.count - 1) }
  · exact hi

theorem reset_rst (st : St) (c : Int) : (st.reset c).rst = c ∧ (st.reset c).left = 4 ∧ (st.reset c).bank = st.bank := by
  unfold St.reset St.setStrikes
  split
  · split <;> exact ⟨rfl, rfl, rfl⟩
  · exact ⟨rfl, rfl, rfl⟩

theorem reset_out (st : St) (c : Int) : (st.reset c).out = st.out := by
  unfold St.reset St.setStrikes
  split
  · split <;> rfl
  · rfl

theorem keys_calm (st : St) (v : Int) : (st.keys v).rst = 0 → (st.keys v).left = st.left := by
  unfold St.keys
  split
  · split
    · rw [(reset_rst _ 3).1]; intro x; cases x
    · intro _; rfl
  · intro _; rfl

theorem updates_calm (st : St) (a v : Int) : (st.updates a v).rst = st.rst ∧ (st.updates a v).left = st.left := by
  unfold St.updates St.setBank St.setStrikes
  repeat' split
  all_goals exact ⟨rfl, rfl⟩

theorem write_calm (st : St) (a v : Int) : (st.write a v).rst = 0 → (st.write a v).left = st.left := by
  unfold St.write
  split
  · intro _; rfl
  split
  · intro _; rfl
  split
  · intro _; rfl
  split
  · exact keys_calm st v
  split
  · split <;> (intro _; rfl)
  split
  · intro _; rfl
  split
  · intro _; exact (updates_calm st a v).2
  · intro _; rfl

theorem takes_calm (st : St) (op n : Int) : (st.takes op n).left = st.left := by
  unfold St.takes
  repeat' split
  all_goals rfl

theorem asks_calm (st : St) (op at_ : Int) : (st.asks op at_).1.rst = 0 → (st.asks op at_).1.left = st.left := by
  unfold St.asks
  split
  · exact write_calm st _ _
  · intro _; exact takes_calm st _ _

theorem alone_calm (st : St) (op : Int) : (st.alone op).left = st.left := by
  unfold St.alone
  repeat' split
  all_goals rfl

theorem jumps_calm (st : St) (op n : Int) : (st.jumps op n).left = st.left := by
  unfold St.jumps
  repeat' split
  all_goals rfl

theorem works_calm (st : St) : st.works.1.rst = 0 → st.works.1.left = st.left := by
  unfold St.works
  split
  · intro _; rfl
  split
  · show (if opLen st.op = 3 then _ else _ : St).rst = 0 → (if opLen st.op = 3 then _ else _ : St).left = st.left
    split
    · intro _; rfl
    · intro _; exact jumps_calm _ _ _
  split
  · exact asks_calm { st with phase := 0 } _ _
  · show (if opLen (st.next 3).2.data = 0 then _ else if opLen (st.next 3).2.data = 1 then _ else _ : St).rst = 0 → (if opLen (st.next 3).2.data = 0 then _ else if opLen (st.next 3).2.data = 1 then _ else _ : St).left = st.left
    split
    · rw [(reset_rst _ 4).1]; intro x; cases x
    split
    · intro _; exact alone_calm _ _
    · intro _; rfl

/-! The bank that was chosen stays while the processor works. -/
theorem setStrikes_bank (st : St) (n : Int) : (st.setStrikes n).bank = st.bank := by unfold St.setStrikes; split <;> rfl
theorem setBank_bank (st : St) (k : Int) (f : Nat → Int) : (st.setBank k f).bank = st.bank := by unfold St.setBank; split <;> rfl
theorem keys_bank (st : St) (v : Int) : (st.keys v).bank = st.bank := by
  unfold St.keys
  split
  · split
    · exact (reset_rst _ 3).2.2
    · rfl
  · rfl
theorem updates_bank (st : St) (a v : Int) : (st.updates a v).bank = st.bank := by
  unfold St.updates St.setBank St.setStrikes
  repeat' split
  all_goals rfl
theorem write_bank (st : St) (a v : Int) : (st.write a v).bank = st.bank := by
  unfold St.write
  repeat' split
  all_goals first | rfl | exact keys_bank st v | exact updates_bank st a v
theorem takes_bank (st : St) (op n : Int) : (st.takes op n).bank = st.bank := by
  unfold St.takes
  repeat' split
  all_goals rfl
theorem asks_bank (st : St) (op at_ : Int) : (st.asks op at_).1.bank = st.bank := by
  unfold St.asks
  split
  · exact write_bank st _ _
  · exact takes_bank st _ _
theorem alone_bank (st : St) (op : Int) : (st.alone op).bank = st.bank := by
  unfold St.alone
  repeat' split
  all_goals rfl
theorem jumps_bank (st : St) (op n : Int) : (st.jumps op n).bank = st.bank := by
  unfold St.jumps
  repeat' split
  all_goals rfl
theorem works_bank (st : St) : st.works.1.bank = st.bank := by
  unfold St.works
  split
  · rfl
  split
  · show (if opLen st.op = 3 then _ else _ : St).bank = st.bank
    split
    · rfl
    · exact jumps_bank _ _ _
  split
  · exact asks_bank { st with phase := 0 } _ _
  · show (if opLen (st.next 3).2.data = 0 then _ else if opLen (st.next 3).2.data = 1 then _ else _ : St).bank = st.bank
    split
    · exact (reset_rst _ 4).2.2
    split
    · exact alone_bank _ _
    · rfl

theorem ticks_other (st : St) : st.ticks.left = st.left ∧ st.ticks.bank = st.bank ∧ st.ticks.age = st.age := by
  unfold St.ticks
  repeat' split
  all_goals exact ⟨rfl, rfl, rfl⟩

theorem Inv.ages {st : St} (hi : Inv st) (hl : st.left = 0) : Inv st.ages := by
  have h1 := hi.age
  have h2 := hi.aged hl
  unfold St.ages
  split
  · exact Inv.reset (st := { st with age := st.age + 1, left := 4 }) { hi with age := (by constructor <;> omega : 0 ≤ st.age + 1 ∧ st.age + 1 ≤ 251), left := (by decide : (0 : Int) ≤ 4 ∧ (4 : Int) ≤ 4), aged := fun h => absurd h (by decide : ¬ (4 : Int) = 0) } 2 (by decide) (by decide)
  · exact { hi with age := (by constructor <;> omega : 0 ≤ st.age + 1 ∧ st.age + 1 ≤ 251), aged := fun _ => (by omega : st.age + 1 ≤ 250) }

theorem Inv.runs {st : St} (hi : Inv st) (hb : 0 ≤ st.bank) (hl : st.left = 0) : Inv st.runs.1 := by
  have h0 : Inv { st with rst := 0 } := { hi with }
  have h1 := h0.works hb
  show Inv (if ({ st with rst := 0 } : St).works.1.rst = 0 then _ else _)
  split
  · rename_i h
    have h2 := works_calm { st with rst := 0 } h
    exact h1.ticks.ages (by rw [(ticks_other _).1, h2]; exact hl)
  · exact h1

theorem bankS_size (f : Nat → Int) : (bankS f).size = 64 := by
  show (List.toArray _).size = 64
  rw [List.size_toArray]
  simp only [List.length_map, List.length_range]

theorem pickB_range (a b : ByteArray) (x y : Bool) : -1 ≤ pickB a b x y ∧ pickB a b x y ≤ 1 := by
  have := grtB_cases a b
  cases x <;> cases y <;> simp [pickB] <;> omega

theorem chooseB_range (a b : ByteArray) (m n : Int) : -1 ≤ chooseB a b m n ∧ chooseB a b m n ≤ 1 := by
  unfold chooseB
  split <;> exact pickB_range _ _ _ _

theorem Inv.boot {st : St} (hi : Inv { st with left := 4 }) (hl : 0 ≤ st.left ∧ st.left ≤ 4) : Inv st.boot := by
  have hc := chooseB_range (bankS st.b0) (bankS st.b1) st.s0 st.s1
  have z : (0 : Int) ≤ 0 ∧ (0 : Int) ≤ 255 := by decide
  unfold St.boot
  split
  all_goals exact { hi with left := hl, bank := hc, a := z, x := z, pc := (by decide : (0 : Int) ≤ 130 ∧ (130 : Int) ≤ 255), phase := (by decide : (0 : Int) ≤ 0 ∧ (0 : Int) ≤ 3), period := z, count := z, cnt := fun h => absurd h (by decide : ¬ (0 : Int) < 0), age := (by decide : (0 : Int) ≤ 0 ∧ (0 : Int) ≤ 251), window := (by decide : (0 : Int) ≤ 0 ∧ (0 : Int) ≤ 200), out := z, place := (by decide : (0 : Int) ≤ 0 ∧ (0 : Int) ≤ 63), ph2 := fun h => absurd h (by decide : ¬ (0 : Int) = 2), aged := fun _ => (by decide : (0 : Int) ≤ 250) }

theorem Inv.supply {st : St} (hi : Inv st) (i : In) (hp : 0 ≤ i.port ∧ i.port ≤ 255) : Inv (st.supply i) := by
  unfold St.supply
  split
  · exact { hi with inp := hp }
  split
  · exact { hi with inp := hp }
  · exact { hi with inp := hp }

theorem Inv.setLeft {st : St} (hi : Inv st) (n : Int) (h : 0 ≤ n ∧ n ≤ 4) (hn : ¬ n = 0) : Inv { st with left := n } := { hi with left := h, aged := fun x => absurd x hn }

theorem Inv.step {st : St} (hi : Inv st) (i : In) (hp : 0 ≤ i.port ∧ i.port ≤ 255) : Inv (st.step i).1 := by
  have hs := hi.supply i hp
  have hl := hs.left
  unfold St.step
  split
  · exact hs.reset 6 (by decide) (by decide)
  split
  · exact hs.reset 5 (by decide) (by decide)
  split
  · rename_i h1 h2 h3
    show Inv (if (st.supply i).left - 1 = 0 then _ else _)
    split
    · rename_i h4
      have h5 : Inv { st.supply i with left := 4 } := hs.setLeft 4 (by decide) (by decide)
      exact Inv.boot (st := { st.supply i with left := (st.supply i).left - 1 }) h5 (by show 0 ≤ (st.supply i).left - 1 ∧ (st.supply i).left - 1 ≤ 4; constructor <;> omega)
    · rename_i h4
      exact hs.setLeft _ (by constructor <;> omega) h4
  split
  · exact hs
  · rename_i h1 h2 h3 h4
    exact hs.runs (by omega) (by omega)

end Go.Proofs.YtommhbidkoeifaaGreat
