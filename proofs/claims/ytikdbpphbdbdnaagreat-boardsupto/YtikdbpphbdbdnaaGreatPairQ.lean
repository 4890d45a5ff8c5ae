/- A board of the program, whatever it is made of: what is asked of Run, Image and Peek. -/
import Derived.Test.YtikdbpphbdbdnaaGreatPairP
import Derived.Test.YtikdbpphbdbdnaaGreatBa
import Derived.RegionTactic
import Derived.BigRegion
namespace Go.Proofs.YtikdbpphbdbdnaaGreat
open Go.RowKit
set_option linter.unusedVariables false

/-- A row of inputs in memory. -/
def InsAt (w : World) (b off n : Nat) (ins : Nat → In) : Prop := ∀ i, i < n → 0 ≤ (ins i).port ∧ (ins i).port ≤ 255 ∧
  w.cell? ⟨b, off + i * 3, none⟩ = some (.bool (ins i).reset) ∧ w.cell? ⟨b, off + i * 3 + 1, none⟩ = some (.int .i64 (ins i).volts) ∧ w.cell? ⟨b, off + i * 3 + 2, none⟩ = some (.int .u8 (ins i).port)

theorem InsAt.kept {S : Nat → Prop} {w w' : World} {b off n : Nat} {ins : Nat → In} (h : InsAt w b off n ins) (hk : Kept S w w') (hb : b < w.heap.size) (hS : ¬ S b) : InsAt w' b off n ins := fun i hi => by
  obtain ⟨h1, h2, h3, h4, h5⟩ := h i hi
  exact ⟨h1, h2, by rw [hk.cell hb hS]; exact h3, by rw [hk.cell hb hS]; exact h4, by rw [hk.cell hb hS]; exact h5⟩

/-- How a board stands behind the first i of some inputs. -/
def St.after (st : St) (ins : Nat → In) : Nat → St
  | 0 => st
  | i + 1 => ((st.after ins i).step (ins i)).1

/-- The cycle of the i-th. -/
def St.cyc (st : St) (ins : Nat → In) (i : Nat) : Cy := ((st.after ins i).step (ins i)).2

theorem St.after_inv {st : St} (hi : Inv st) {ins : Nat → In} {n : Nat} (hp : ∀ i, i < n → 0 ≤ (ins i).port ∧ (ins i).port ≤ 255) : ∀ i, i ≤ n → Inv (st.after ins i)
  | 0, _ => hi
  | i + 1, h => (St.after_inv hi hp i (by omega)).step (ins i) (hp i (by omega))

/-- A cycle's cells. -/
def cyCell (c : Cy) : Nat → Value
  | 0 => .int .i64 c.kind
  | 1 => .int .i64 c.addr
  | 2 => .int .u8 c.data
  | _ => .int .u8 c.out

/-- n cycles in memory. -/
def CysAt (w : World) (b n : Nat) (c : Nat → Cy) : Prop := Raw b (n * 4) (fun k => cyCell (c (k / 4)) (k % 4)) w

/-- What Image tells. -/
def imgOf (st : St) (k : Int) : ByteArray := if k = 0 then bankS st.b0 else if k = 1 then bankS st.b1 else ByteArray.empty
def imgE (k : Int) : Int := if k = 0 ∨ k = 1 then 0 else 3

/-- What Peek tells. -/
def peekOf (st : St) (k : Int) : Int := if 0 ≤ k ∧ k ≤ 127 then st.mem k.toNat else 0
def peekE (k : Int) : Int := if 0 ≤ k ∧ k ≤ 127 then 0 else 3

/-- What is asked besides. -/
structure PBmore (B : PB) : Prop where
  image : ∀ (n : Nat) (l : B.Lt) (st : St) (w : World) (k : Int), B.rep n l st w → Inv st →
    Calls Tryz.prog 38 #[.pointer (some ⟨B.g l, 0, none⟩), .int .i64 k] w fun e w' => e = .returned (.tuple #[.string (imgOf st k), .int .i64 (imgE k)]) ∧ Below w.heap.size w w'
  peek : ∀ (n : Nat) (l : B.Lt) (st : St) (w : World) (k : Int), B.rep n l st w →
    Calls Tryz.prog 40 #[.pointer (some ⟨B.g l, 0, none⟩), .int .i64 k] w fun e w' => e = .returned (.tuple #[.int .u8 (peekOf st k), .int .i64 (peekE k)]) ∧ Below w.heap.size w w'
  run : ∀ (n : Nat) (l : B.Lt) (st : St) (w : World) (a : Option Addr) (m cap : Nat) (ins : Nat → In), B.rep n l st w → n + m < 1152921504606846976 → m ≤ 5864062014805 → Inv st → (m = 0 ∨ ∃ b off, a = some ⟨b, off, none⟩ ∧ b < w.heap.size ∧ ¬ B.own l b ∧ InsAt w b off m ins) →
    Calls Tryz.prog 32 #[.pointer (some ⟨B.g l, 0, none⟩), .slice a m cap] w fun e w' => ∃ c, e = .returned (.slice (some ⟨c, 0, none⟩) m m) ∧ w.heap.size ≤ c ∧ c < w'.heap.size ∧ CysAt w' c m (st.cyc ins) ∧
      ∃ l' : B.Lt, B.g l' = B.g l ∧ B.rep (n + m) l' (st.after ins m) w' ∧ Kept (B.own l) w w' ∧ (∀ k, B.own l' k → B.own l k ∨ w.heap.size ≤ k) ∧ ¬ B.own l' c

end Go.Proofs.YtikdbpphbdbdnaaGreat
