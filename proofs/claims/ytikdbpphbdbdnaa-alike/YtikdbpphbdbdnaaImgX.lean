/- The program's board: Image and Peek. -/
import Derived.Test.YtikdbpphbdbdnaaXa
import Derived.Test.YtikdbpphbdbdnaaPairQ
namespace Go.Proofs.Ytikdbpphbdbdnaa
open Go.RowKit
set_option linter.unusedVariables false

set_option maxRecDepth 100000 in
set_option maxHeartbeats 1000000 in
theorem xImage_no {g : Nat} {w : World} (k : Int) (hk : k < 0 ∨ 1 < k) :
    Calls Try.prog 27 #[.pointer (some ⟨g, 0, none⟩), .int .i64 k] w fun e w' => e = .returned (.tuple #[.string ByteArray.empty, .int .i64 3]) ∧ Still w w' := by
  rcases hk with hk | hk
  · go_enter Try.func27, Try.ntmps27
    go_wp2
    go_ret2
    exact ⟨rfl, Kept.refl _ _⟩
  · have hk0 : ¬ k < 0 := by omega
    have hk1 : 2 ≤ k := by omega
    go_enter Try.func27, Try.ntmps27
    go_wp2
    go_ret2
    exact ⟨rfl, Kept.refl _ _⟩

set_option maxRecDepth 100000 in
set_option maxHeartbeats 1000000 in
theorem xImage_0 {l : XL} {st : St} {ex : Ext} {w : World} (hr : XRep l st ex w) (h0 : ∀ i, 0 ≤ st.b0 i ∧ st.b0 i ≤ 255) :
    Calls Try.prog 27 #[.pointer (some ⟨l.g, 0, none⟩), .int .i64 0] w fun e w' => e = .returned (.tuple #[.string (bankS st.b0), .int .i64 0]) ∧ Still w w' := by
  have c1 := hr.c_bk
  obtain ⟨s0, es0⟩ : ∃ s0, s0 = bankS st.b0 := ⟨_, rfl⟩
  have hv : ∀ W, Still w W → (convert 30 9 (.slice (some ⟨l.bk, 0, none⟩) 64 64)).run Try.prog W = .ok (.string s0) W := fun W hW => by
    rw [es0]
    exact run_bank_at W l.bk 0 64 st.b0 h0 (fun i hi => by rw [Nat.zero_add]; exact (hr.kept hW (fun _ _ x => x)).c_b0 i hi)
  have q0 := hv w (Kept.refl _ _)
  rw [← es0]
  clear es0 hv
  go_enter Try.func27, Try.ntmps27
  go_wp2
  go_ret2
  exact ⟨rfl, Kept.refl _ _⟩

set_option maxRecDepth 100000 in
set_option maxHeartbeats 1000000 in
theorem xImage_1 {l : XL} {st : St} {ex : Ext} {w : World} (hr : XRep l st ex w) (h1 : ∀ i, 0 ≤ st.b1 i ∧ st.b1 i ≤ 255) :
    Calls Try.prog 27 #[.pointer (some ⟨l.g, 0, none⟩), .int .i64 1] w fun e w' => e = .returned (.tuple #[.string (bankS st.b1), .int .i64 0]) ∧ Still w w' := by
  have c1 := hr.c_bk
  obtain ⟨s0, es0⟩ : ∃ s0, s0 = bankS st.b1 := ⟨_, rfl⟩
  have hv : ∀ W, Still w W → (convert 30 9 (.slice (some ⟨l.bk, 64, none⟩) 64 64)).run Try.prog W = .ok (.string s0) W := fun W hW => by
    rw [es0]
    exact run_bank_at W l.bk 64 64 st.b1 h1 (fun i hi => (hr.kept hW (fun _ _ x => x)).c_b1 i hi)
  have q0 := hv w (Kept.refl _ _)
  rw [← es0]
  clear es0 hv
  go_enter Try.func27, Try.ntmps27
  go_wp2
  go_ret2
  exact ⟨rfl, Kept.refl _ _⟩

theorem xImage_any {l : XL} {st : St} {ex : Ext} {w : World} (hr : XRep l st ex w) (hi : Inv st) (k : Int) :
    Calls Try.prog 27 #[.pointer (some ⟨l.g, 0, none⟩), .int .i64 k] w fun e w' => e = .returned (.tuple #[.string (imgOf st k), .int .i64 (imgE k)]) ∧ Still w w' := by
  unfold imgOf imgE
  by_cases h0 : k = 0
  · subst h0
    rw [if_pos rfl, if_pos (Or.inl rfl)]
    exact xImage_0 hr hi.b0
  · rw [if_neg h0]
    by_cases h1 : k = 1
    · subst h1
      rw [if_pos rfl, if_pos (Or.inr rfl)]
      exact xImage_1 hr hi.b1
    · rw [if_neg h1, if_neg (fun x => x.elim h0 h1)]
      exact xImage_no k (by omega)

set_option maxRecDepth 100000 in
set_option maxHeartbeats 1000000 in
theorem nImage_any {l : XL} {st : St} {ex : Ext} {w : World} (hr : XRep l st ex w) (hi : Inv st) (k : Int) :
    Calls Try.prog 19 #[.pointer (some ⟨l.nb, 0, none⟩), .int .i64 k] w fun e w' => e = .returned (.tuple #[.string (imgOf st k), .int .i64 (imgE k)]) ∧ Still w w' := by
  have c0 := hr.c_nb0
  have H : Hid _ := xImage_any hr hi k
  generalize imgOf st k = s at H ⊢
  generalize imgE k = m at H ⊢
  clear hi
  go_enter Try.func19, Try.ntmps19
  go_wp2_with fail
  refine Calls.mono H.out ?_
  rintro e w1 ⟨rfl, k1⟩
  go_wp2
  go_ret2
  exact ⟨rfl, k1⟩

end Go.Proofs.Ytikdbpphbdbdnaa
