/- A board of the program, whatever it is made of: what is asked of it. -/
import Derived.Test.YtikdbpphbdbdnaaGreatBb
namespace Go.Proofs.YtikdbpphbdbdnaaGreat
open Go.RowKit
set_option linter.unusedVariables false

/-- How the program's board lies in memory: Lt: a layout; g: the block that its pointer leads to; own: its blocks; rep n: it lies there, in this state, and has had n cycles at most. -/
structure PB where
  Lt : Type
  g : Lt → Nat
  own : Lt → Nat → Prop
  rep : Nat → Lt → St → World → Prop

/-- What is asked of it. -/
structure PBok (B : PB) : Prop where
  more : ∀ {n m : Nat} {l : B.Lt} {st : St} {w : World}, B.rep n l st w → n ≤ m → B.rep m l st w
  lt : ∀ {n : Nat} {l : B.Lt} {st : St} {w : World} {k : Nat}, B.rep n l st w → B.own l k → k < w.heap.size
  kept : ∀ {n : Nat} {l : B.Lt} {st : St} {w w' : World} {S : Nat → Prop}, B.rep n l st w → Kept S w w' → (∀ k, B.own l k → ¬ S k) → B.rep n l st w'
  new_no : ∀ (a b : ByteArray) (w : World), a.size ≤ maxLen → b.size ≤ maxLen → ¬ (a.size = 64 ∧ b.size = 64) →
    Calls Tryz.prog 27 #[.string a, .string b] w fun e w' => e = .returned (.tuple #[.pointer none, .int .i64 1]) ∧ Below w.heap.size w w'
  new_ok : ∀ (a b : ByteArray) (w : World), a.size = 64 → b.size = 64 →
    Calls Tryz.prog 27 #[.string a, .string b] w fun e w' => ∃ l : B.Lt, e = .returned (.tuple #[.pointer (some ⟨B.g l, 0, none⟩), .int .i64 0]) ∧ B.rep 0 l (newSt a b) w' ∧ Below w.heap.size w w' ∧ ∀ k, B.own l k → w.heap.size ≤ k
  step : ∀ (n : Nat) (l : B.Lt) (st : St) (w : World) (rs : Bool) (v p : Int), B.rep n l st w → n < 1152921504606846976 → Inv st → 0 ≤ p → p ≤ 255 →
    Calls Tryz.prog 47 #[.pointer (some ⟨B.g l, 0, none⟩), .agg #[.bool rs, .int .i64 v, .int .u8 p]] w fun e w' => e = .returned (.agg #[.int .i64 (st.step ⟨rs, v, p⟩).2.kind, .int .i64 (st.step ⟨rs, v, p⟩).2.addr, .int .u8 (st.step ⟨rs, v, p⟩).2.data, .int .u8 (st.step ⟨rs, v, p⟩).2.out]) ∧
      ∃ l' : B.Lt, B.g l' = B.g l ∧ B.rep (n + 1) l' (st.step ⟨rs, v, p⟩).1 w' ∧ Kept (B.own l) w w' ∧ ∀ k, B.own l' k → B.own l k ∨ w.heap.size ≤ k
  tell : ∀ (n : Nat) (l : B.Lt) (st : St) (w : World), B.rep n l st w → Inv st →
    Calls Tryz.prog 36 #[.pointer (some ⟨B.g l, 0, none⟩)] w fun e w' => e = .returned st.told ∧ B.rep n l st w' ∧ Below w.heap.size w w'

end Go.Proofs.YtikdbpphbdbdnaaGreat
