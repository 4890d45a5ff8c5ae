/- What the program keeps beside the document's state, in plain mathematics: times against counts, the list of what is due, how far an instruction has come. -/
import Derived.Test.YtikdbpphbdbdnaaGreatXk
import Derived.Test.YtikdbpphbdbdnaaGreatXc
namespace Go.Proofs.YtikdbpphbdbdnaaGreat
open Go.RowKit
set_option linter.unusedVariables false

/-- The list of what is due: the watch, and the timer if it goes. -/
def canon (p nx wt : Int) : List Du := if p = 0 then [⟨true, wt⟩] else if nx ≤ wt then [⟨false, nx⟩, ⟨true, wt⟩] else [⟨true, wt⟩, ⟨false, nx⟩]

theorem canon_ok (p nx wt : Int) : DsOk (canon p nx wt) := by
  unfold canon
  split
  · exact Or.inr (Or.inl ⟨_, rfl⟩)
  split
  · exact Or.inr (Or.inr ⟨_, _, rfl, rfl⟩)
  · exact Or.inr (Or.inr ⟨_, _, rfl, rfl⟩)

theorem lessB_wt (wt nx : Int) : lessB ⟨true, wt⟩ ⟨false, nx⟩ = decide (wt < nx) := by
  unfold lessB duTurn
  by_cases e : wt = nx
  · rw [if_pos e]; simp; omega
  · rw [if_neg e]

theorem lessB_tw (nx wt : Int) : lessB ⟨false, nx⟩ ⟨true, wt⟩ = decide (nx ≤ wt) := by
  unfold lessB duTurn
  by_cases e : nx = wt
  · rw [if_pos e]; simp; omega
  · rw [if_neg e]
    have : (nx < wt) ↔ (nx ≤ wt) := by omega
    simp [this]

/-- Fed: the watch has another time. -/
theorem canon_feed (p nx wt wt' : Int) : putD (canon p nx wt) ⟨true, wt'⟩ = canon p nx wt' := by
  have h : ∀ ds, dropD true ds = [⟨false, nx⟩] → pushD (dropD true ds) ⟨true, wt'⟩ = if nx ≤ wt' then [⟨false, nx⟩, ⟨true, wt'⟩] else [⟨true, wt'⟩, ⟨false, nx⟩] := fun ds e => by
    rw [e]
    unfold pushD
    simp only [lessB_wt, decide_eq_true_eq]
    by_cases h1 : nx ≤ wt'
    · rw [if_neg (by omega), if_pos h1]
    · rw [if_pos (by omega), if_neg h1]
  unfold putD
  show pushD (dropD true (canon p nx wt)) ⟨true, wt'⟩ = _
  by_cases hp : p = 0
  · simp [canon, hp, dropD, pushD]
  · by_cases hx : nx ≤ wt
    · have e : canon p nx wt = [⟨false, nx⟩, ⟨true, wt⟩] := by unfold canon; rw [if_neg hp, if_pos hx]
      rw [h _ (by rw [e]; simp [dropD])]
      unfold canon
      rw [if_neg hp]
    · have e : canon p nx wt = [⟨true, wt⟩, ⟨false, nx⟩] := by unfold canon; rw [if_neg hp, if_neg hx]
      rw [h _ (by rw [e]; simp [dropD])]
      unfold canon
      rw [if_neg hp]

theorem canon_drop (p nx wt : Int) : dropD false (canon p nx wt) = [⟨true, wt⟩] := by
  unfold canon
  split
  · simp [dropD]
  split
  · simp [dropD]
  · simp [dropD]

theorem put_timer (wt nx : Int) (p : Int) (hp : ¬ p = 0) : putD [⟨true, wt⟩] ⟨false, nx⟩ = canon p nx wt := by
  unfold putD
  show pushD (dropD false [⟨true, wt⟩]) ⟨false, nx⟩ = _
  have e : dropD false [⟨true, wt⟩] = [⟨true, wt⟩] := by simp [dropD]
  rw [e]
  unfold pushD canon
  rw [if_neg hp]
  simp only [lessB_tw, decide_eq_true_eq]

theorem put_timer_alone (nx : Int) : putD [] ⟨false, nx⟩ = [⟨false, nx⟩] := rfl

/-- How far the instruction has come. -/
structure PhR (st : St) (ex : Ext) : Prop where
  p0 : st.phase = 0 → ex.ph = 0 ∧ ex.wait = false
  p1 : st.phase = 1 → ex.ph = 1 ∧ ex.wait = false ∧ ex.op = st.op ∧ (opLen st.op = 2 ∨ opLen st.op = 3)
  p2 : st.phase = 2 → ex.ph = 2 ∧ ex.wait = false ∧ ex.op = st.op ∧ ex.addr = st.target st.op st.opd
  p3 : st.phase = 3 → ex.ph = 0 ∧ ex.wait = true

/-- A board that runs. -/
structure Rel (n : Nat) (st : St) (ex : Ext) : Prop where
  clk : Clk n st ex
  due : ex.due = canon st.period ex.next (ex.fed + 251)
  ph : PhR st ex
  early : ex.early = false

theorem Rel.ok {n : Nat} {st : St} {ex : Ext} (h : Rel n st ex) : DsOk ex.due := by rw [h.due]; exact canon_ok _ _ _

/-- The shape of an instruction by its length. -/
theorem shape_len (op : Int) : (shapeN op = 0 ↔ opLen op = 0) ∧ (shapeN op = 1 ↔ opLen op = 1) ∧ (shapeN op = 2 ↔ opLen op = 2) := by
  unfold shapeN opLen
  by_cases h1 : op = 0 ∨ op = 11 ∨ op = 12 ∨ op = 13 ∨ op = 14 ∨ op = 24
  · rw [if_pos h1, if_pos h1]; omega
  · rw [if_neg h1, if_neg h1]
    by_cases h2 : op = 1 ∨ (16 ≤ op ∧ op ≤ 20)
    · rw [if_pos h2, if_pos h2]; omega
    · rw [if_neg h2, if_neg h2]
      by_cases h3 : op = 3 ∨ op = 10
      · rw [if_pos h3, if_pos (by omega)]; omega
      · rw [if_neg h3]
        by_cases h4 : 2 ≤ op ∧ op ≤ 9
        · rw [if_pos h4, if_pos (by omega)]; omega
        · rw [if_neg h4, if_neg (by omega)]; omega

theorem shape_one {op : Int} (h : shapeN op = 1) : op = 0 ∨ op = 11 ∨ op = 12 ∨ op = 13 ∨ op = 14 ∨ op = 24 := by
  unfold shapeN at h
  split at h
  · assumption
  · split at h
    · omega
    · split at h
      · omega
      · split at h <;> omega

theorem shape_two {op : Int} (h : shapeN op = 2) : op = 1 ∨ (16 ≤ op ∧ op ≤ 20) := by
  unfold shapeN at h
  split at h
  · omega
  · split at h
    · assumption
    · split at h
      · omega
      · split at h <;> omega

theorem shape_34 {op : Int} (h : 2 ≤ op ∧ op ≤ 10) : (shapeN op = 4 ∧ (op = 3 ∨ op = 10)) ∨ (shapeN op = 3 ∧ (2 ≤ op ∧ op ≤ 9) ∧ ¬ op = 3) := by
  unfold shapeN
  rw [if_neg (by omega), if_neg (by omega)]
  by_cases h3 : op = 3 ∨ op = 10
  · rw [if_pos h3]; exact Or.inl ⟨rfl, h3⟩
  · rw [if_neg h3, if_pos (by omega)]; exact Or.inr ⟨rfl, by omega, by omega⟩

theorem opLen_cases (op : Int) : opLen op = 0 ∨ opLen op = 1 ∨ opLen op = 2 ∨ opLen op = 3 := by
  unfold opLen
  split
  · exact Or.inr (Or.inl rfl)
  split
  · exact Or.inr (Or.inr (Or.inl rfl))
  split
  · exact Or.inr (Or.inr (Or.inr rfl))
  · exact Or.inl rfl

theorem indexed_target (st : St) (op d : Int) : st.target op d = if indexedB op = true then (d + st.x) % 256 else d := by
  unfold St.target indexedB
  by_cases h : op = 9 ∨ op = 10
  · rw [if_pos h, if_pos (by rcases h with rfl | rfl <;> rfl)]
  · rw [if_neg h, if_neg]
    simp
    omega

/-- The clock's facts hang on a few fields. -/
theorem Clk.as {n : Nat} {st st' : St} {ex ex' : Ext} (h : Clk n st ex) (h1 : ex'.now = ex.now) (h2 : ex'.next = ex.next) (h3 : ex'.fed = ex.fed) (h4 : st'.period = st.period) (h5 : st'.count = st.count) (h6 : st'.age = st.age) : Clk n st' ex' :=
  ⟨by rw [h1]; exact h.n0, by rw [h1]; exact h.n1, by rw [h1, h2, h4, h5]; exact h.nx, by rw [h4, h5]; exact h.p0, by rw [h1, h3, h6]; exact h.fd⟩

theorem reset_same (st : St) (c : Int) : (st.reset c).period = st.period ∧ (st.reset c).count = st.count ∧ (st.reset c).age = st.age := by
  unfold St.reset St.setStrikes
  split
  · split <;> exact ⟨rfl, rfl, rfl⟩
  · exact ⟨rfl, rfl, rfl⟩

end Go.Proofs.YtikdbpphbdbdnaaGreat
