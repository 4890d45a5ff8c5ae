/- The program's board: Run, Image and Peek, as the script asks for them. -/
import Derived.Test.YtikdbpphbdbdnaaGreatNewP
import Derived.Test.YtikdbpphbdbdnaaGreatImgX
import Derived.Test.YtikdbpphbdbdnaaGreatRunX
namespace Go.Proofs.YtikdbpphbdbdnaaGreat
open Go.RowKit
set_option linter.unusedVariables false

theorem stepIn : StepIn progB XL.g := fun n l st w rs v p ⟨ex, h1, h2⟩ hn hi hp0 hp1 =>
  (xStep_any (n := n) (by omega) h1 hi (h2.more (by omega)) rs v p hp0 hp1).mono fun e w' ⟨q1, E, ⟨l2, q2, q3, q4⟩, q5⟩ => ⟨q1, l2, q2.g, q2.nb, ⟨E, q3, q5.more (by omega)⟩, q4, fun k hk => q2.own hk⟩

set_option maxRecDepth 100000 in
set_option maxHeartbeats 1000000 in
theorem nRun_any (n : Nat) (l : XL) (st : St) (w : World) (a : Option Addr) (m cap : Nat) (ins : Nat → In) (hr : progB.rep n l st w) (hn : n + m < 1152921504606846976) (hm : m ≤ 5864062014805) (hi : Inv st) (ha : m = 0 ∨ ∃ b off, a = some ⟨b, off, none⟩ ∧ b < w.heap.size ∧ ¬ progB.own l b ∧ InsAt w b off m ins) :
    Calls Tryz.prog 32 #[.pointer (some ⟨progB.g l, 0, none⟩), .slice a m cap] w fun e w' => ∃ c, e = .returned (.slice (some ⟨c, 0, none⟩) m m) ∧ w.heap.size ≤ c ∧ c < w'.heap.size ∧ CysAt w' c m (st.cyc ins) ∧
      ∃ l' : XL, progB.g l' = progB.g l ∧ progB.rep (n + m) l' (st.after ins m) w' ∧ Kept (progB.own l) w w' ∧ (∀ k, progB.own l' k → progB.own l k ∨ w.heap.size ≤ k) ∧ ¬ progB.own l' c := by
  have c0 : w.cell? ⟨progB.g l, 0, none⟩ = some (.pointer (some ⟨l.g, 0, none⟩)) := by obtain ⟨ex, h1, _⟩ := hr; exact h1.c_nb0
  have H : Hid _ := xRun_any progOk stepIn (B := progB) a m cap ins hr hn hm hi ha
  generalize progB.g l = G at c0 H ⊢
  clear hr hi ha
  go_enter Tryz.func32, Tryz.ntmps32
  go_wp2_with fail
  refine Calls.mono H.out ?_
  rintro e w1 ⟨c, rfl, q1, q2, q3, l2, g1, g2, r2, k2, o2, n2⟩
  go_wp2
  go_ret
  exact ⟨c, rfl, q1, q2, q3, l2, g2, r2, k2, o2, n2⟩

theorem progMore : PBmore progB where
  image := fun n l st w k ⟨ex, h1, h2⟩ hi => (nImage_any h1 hi k).mono fun e w' ⟨q1, q2⟩ => ⟨q1, ⟨q2.os, q2.tape, q2.output, q2.size, fun k hk => q2.block k hk (fun x => x)⟩⟩
  peek := fun n l st w k ⟨ex, h1, h2⟩ => (nPeek_any h1 k).mono fun e w' ⟨q1, q2⟩ => ⟨q1, ⟨q2.os, q2.tape, q2.output, q2.size, fun k hk => q2.block k hk (fun x => x)⟩⟩
  run := nRun_any

end Go.Proofs.YtikdbpphbdbdnaaGreat
