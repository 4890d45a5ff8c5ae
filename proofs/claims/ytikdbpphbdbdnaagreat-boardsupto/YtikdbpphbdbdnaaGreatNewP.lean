/- The program's board as the script asks for it. -/
import Derived.Test.YtikdbpphbdbdnaaGreatXn
import Derived.Test.YtikdbpphbdbdnaaGreatXt
import Derived.Test.YtikdbpphbdbdnaaGreatPairP
namespace Go.Proofs.YtikdbpphbdbdnaaGreat
open Go.RowKit
set_option linter.unusedVariables false

set_option maxRecDepth 100000 in
set_option maxHeartbeats 1000000 in
theorem nNew_no (a b : ByteArray) (w : World) (h : ¬ (a.size = 64 ∧ b.size = 64)) :
    Calls Tryz.prog 27 #[.string a, .string b] w fun e w' => e = .returned (.tuple #[.pointer none, .int .i64 1]) ∧ w' = w := by
  go_enter Tryz.func27, Tryz.ntmps27
  go_wp2_with (go_at_call 46; refine (xNew_no a b _ h).mono ?_; rintro e w1 ⟨rfl, rfl⟩)
  go_ret2
  exact ⟨rfl, rfl⟩

theorem new_ok (a b : ByteArray) : XOk 0 (newSt a b) newX :=
  ⟨⟨by decide, by decide, fun x => absurd rfl x, fun _ => rfl, by show (0 : Int) = 0 - 0; decide⟩, Or.inl rfl, fun x => absurd x (by show ¬ (4 : Int) = 0; decide)⟩

set_option maxRecDepth 100000 in
set_option maxHeartbeats 1000000 in
theorem nNew_ok (a b : ByteArray) (w : World) (h : a.size = 64) (h2 : b.size = 64) :
    Calls Tryz.prog 27 #[.string a, .string b] w fun e w' => e = .returned (.tuple #[.pointer (some ⟨w.heap.size + 10, 0, none⟩), .int .i64 0]) ∧ XRep (newL w.heap.size) (newSt a b) newX w' ∧ Kept (fun _ => False) w w' := by
  have H : Hid (∀ w9 : World, (∃ w1, Hid (w1 = (((w.alloc (.cells #[.int .i64 0, .slice none 0 0] 111)).alloc (.cells (zeroK.setIfInBounds 130 (.int .i64 (-1))) 146)).setCells (w.heap.size + 1) 0 (strs a)).setCells (w.heap.size + 1) 64 (strs b)) ∧ Hid (Still (newW w w1 (w1.heap.size + 1 + 1 + 1 + 1 + 1 + 1)) w9 ∧ w9.heap.size = w.heap.size + 10)) → XRep (newL w.heap.size) (newSt a b) newX (w9.alloc (.cells #[.pointer (some ⟨w.heap.size + 8, 0, none⟩)] 94)) ∧ Kept (fun _ => False) w (w9.alloc (.cells #[.pointer (some ⟨w.heap.size + 8, 0, none⟩)] 94))) := fun w9 ⟨w1, h1, h9⟩ => by
    refine new_xrep a b w w1 w9 h h2 _ _ rfl ?_ h9.out.1 h9.out.2
    have e := h1.out
    rw [World.size_alloc]
    exact e
  have HN : Hid (Calls Tryz.prog 46 #[.string a, .string b] w fun e w9 => e = .returned (.tuple #[.pointer (some ⟨w.heap.size + 8, 0, none⟩), .int .i64 0]) ∧ w9.heap.size = w.heap.size + 10 ∧ Hid (XRep (newL w.heap.size) (newSt a b) newX (w9.alloc (.cells #[.pointer (some ⟨w.heap.size + 8, 0, none⟩)] 94)) ∧ Kept (fun _ => False) w (w9.alloc (.cells #[.pointer (some ⟨w.heap.size + 8, 0, none⟩)] 94)))) := by
    refine (xNew_ok a b w h h2).mono fun e w9 ⟨w1, q1, q2, q3⟩ => ?_
    have z1 : w1.heap.size = w.heap.size + 2 := by rw [q1.out, setCells_size, setCells_size, World.size_alloc, World.size_alloc]
    refine ⟨?_, q3.out.2, H.out w9 ⟨w1, q1, q3⟩⟩
    rw [q2, z1]
  clear H
  go_enter Tryz.func27, Tryz.ntmps27
  go_wp2_with (go_at_call 46; refine Calls.mono HN.out ?_; rintro e w9 ⟨rfl, hs9, h9⟩)
  go_ret2
  exact ⟨rfl, h9.out.1, h9.out.2⟩

/-- The program's board. -/
def progB : PB := { Lt := XL, g := fun l => l.nb, own := XL.own, rep := fun n l st w => ∃ ex, XRep l st ex w ∧ XOk (min n 1152921504606846976) st ex }

theorem progOk : PBok progB where
  more := fun ⟨ex, h1, h2⟩ hm => ⟨ex, h1, h2.more (by omega)⟩
  lt := fun ⟨ex, h1, _⟩ hk => h1.lt hk
  kept := fun ⟨ex, h1, h2⟩ hk hS => ⟨ex, h1.kept hk hS, h2⟩
  new_no := fun a b w _ _ h => (nNew_no a b w h).mono fun e w' ⟨q1, q2⟩ => ⟨q1, by rw [q2]; exact Below.refl _ _⟩
  new_ok := fun a b w h h2 => (nNew_ok a b w h h2).mono fun e w' ⟨q1, q2, q3⟩ => ⟨newL w.heap.size, q1, ⟨newX, q2, (new_ok a b).more (Nat.zero_le _)⟩, ⟨q3.os, q3.tape, q3.output, q3.size, fun k hk => q3.block k hk (fun x => x)⟩, fun k hk => newL_own _ k hk⟩
  step := fun n l st w rs v p ⟨ex, h1, h2⟩ hn hi hp0 hp1 => (nStep_any (n := n) (by omega) h1 hi (h2.more (by omega)) rs v p hp0 hp1).mono fun e w' ⟨q1, E, ⟨l2, q2, q3, q4⟩, q5⟩ => ⟨q1, l2, q2.nb, ⟨E, q3, q5.more (by omega)⟩, q4, fun k hk => q2.own hk⟩
  tell := fun n l st w ⟨ex, h1, h2⟩ hi => (nTell_any (n := min n 1152921504606846976) (by omega) h1 hi h2).mono fun e w' ⟨q1, q2⟩ => ⟨q1, ⟨ex, h1.kept q2 (fun _ _ x => x), h2⟩, ⟨q2.os, q2.tape, q2.output, q2.size, fun k hk => q2.block k hk (fun x => x)⟩⟩

end Go.Proofs.YtikdbpphbdbdnaaGreat
