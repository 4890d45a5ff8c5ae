/- The program's board: Image and Peek. -/
import Derived.Test.YtikdbpphbdbdnaaGreatXa
import Derived.Test.YtikdbpphbdbdnaaGreatPairQ
namespace Go.Proofs.YtikdbpphbdbdnaaGreat
open Go.RowKit
set_option linter.unusedVariables false

set_option maxRecDepth 100000 in
set_option maxHeartbeats 1000000 in
theorem xImage_no {g : Nat} {w : World} (k : Int) (hk : k < 0 ∨ 1 < k) :
    Calls Tryz.prog 53 #[.pointer (some ⟨g, 0, none⟩), .int .i64 k] w fun e w' => e = .returned (.tuple #[.string ByteArray.empty, .int .i64 3]) ∧ Still w w' := by
  rcases hk with hk | hk
  · go_enter Tryz.func53, Tryz.ntmps53
    go_wp2
    go_ret2
    exact ⟨rfl, Kept.refl _ _⟩
  · have hk0 : ¬ k < 0 := by omega
    have hk1 : 2 ≤ k := by omega
    go_enter Tryz.func53, Tryz.ntmps53
    go_wp2
    go_ret2
    exact ⟨rfl, Kept.refl _ _⟩

set_option maxRecDepth 100000 in
set_option maxHeartbeats 1000000 in
theorem xImage_0 {l : XL} {st : St} {ex : Ext} {w : World} (hr : XRep l st ex w) (h0 : ∀ i, 0 ≤ st.b0 i ∧ st.b0 i ≤ 255) :
    Calls Tryz.prog 53 #[.pointer (some ⟨l.g, 0, none⟩), .int .i64 0] w fun e w' => e = .returned (.tuple #[.string (bankS st.b0), .int .i64 0]) ∧ Still w w' := by
  have c1 := hr.c_bk
  obtain ⟨s0, es0⟩ : ∃ s0, s0 = bankS st.b0 := ⟨_, rfl⟩
  have hv : ∀ W, Still w W → (convert 72 9 (.slice (some ⟨l.bk, 0, none⟩) 64 64)).run Tryz.prog W = .ok (.string s0) W := fun W hW => by
    rw [es0]
    exact run_bank_at W l.bk 0 64 st.b0 h0 (fun i hi => by rw [Nat.zero_add]; exact (hr.kept hW (fun _ _ x => x)).c_b0 i hi)
  have q0 := hv w (Kept.refl _ _)
  rw [← es0]
  clear es0 hv
  go_enter Tryz.func53, Tryz.ntmps53
  go_wp2
  go_ret2
  exact ⟨rfl, Kept.refl _ _⟩

set_option maxRecDepth 100000 in
set_option maxHeartbeats 1000000 in
theorem xImage_1 {l : XL} {st : St} {ex : Ext} {w : World} (hr : XRep l st ex w) (h1 : ∀ i, 0 ≤ st.b1 i ∧ st.b1 i ≤ 255) :
    Calls Tryz.prog 53 #[.pointer (some ⟨l.g, 0, none⟩), .int .i64 1] w fun e w' => e = .returned (.tuple #[.string (bankS st.b1), .int .i64 0]) ∧ Still w w' := by
  have c1 := hr.c_bk
  obtain ⟨s0, es0⟩ : ∃ s0, s0 = bankS st.b1 := ⟨_, rfl⟩
  have hv : ∀ W, Still w W → (convert 72 9 (.slice (some ⟨l.bk, 64, none⟩) 64 64)).run Tryz.prog W = .ok (.string s0) W := fun W hW => by
    rw [es0]
    exact run_bank_at W l.bk 64 64 st.b1 h1 (fun i hi => (hr.kept hW (fun _ _ x => x)).c_b1 i hi)
  have q0 := hv w (Kept.refl _ _)
  rw [← es0]
  clear es0 hv
  go_enter Tryz.func53, Tryz.ntmps53
  go_wp2
  go_ret2
  exact ⟨rfl, Kept.refl _ _⟩

theorem xImage_any {l : XL} {st : St} {ex : Ext} {w : World} (hr : XRep l st ex w) (hi : Inv st) (k : Int) :
    Calls Tryz.prog 53 #[.pointer (some ⟨l.g, 0, none⟩), .int .i64 k] w fun e w' => e = .returned (.tuple #[.string (imgOf st k), .int .i64 (imgE k)]) ∧ Still w w' := by
  unfold imgOf imgE
  by_cases h0 : k = 0
  · subst h0
    rw [if_pos rfl, if_pos (Or.inl rfl)]
    exact xImage_0 hr hi.b0
  · rw [if_neg h0]
    by_cases h1 : k = 1
    · subst h1
      rw [if_pos rfl, if_pos (Or.inr rfl)]
      exact xImage_1 hr hi.b1
    · rw [if_neg h1, if_neg (fun x => x.elim h0 h1)]
      exact xImage_no k (by omega)

set_option maxRecDepth 100000 in
set_option maxHeartbeats 1000000 in
theorem nImage_any {l : XL} {st : St} {ex : Ext} {w : World} (hr : XRep l st ex w) (hi : Inv st) (k : Int) :
    Calls Tryz.prog 38 #[.pointer (some ⟨l.nb, 0, none⟩), .int .i64 k] w fun e w' => e = .returned (.tuple #[.string (imgOf st k), .int .i64 (imgE k)]) ∧ Still w w' := by
  have c0 := hr.c_nb0
  have H : Hid _ := xImage_any hr hi k
  generalize imgOf st k = s at H ⊢
  generalize imgE k = m at H ⊢
  clear hi
  go_enter Tryz.func38, Tryz.ntmps38
  go_wp2_with fail
  refine Calls.mono H.out ?_
  rintro e w1 ⟨rfl, k1⟩
  go_wp2
  go_ret2
  exact ⟨rfl, k1⟩

set_option maxRecDepth 100000 in
set_option maxHeartbeats 1000000 in
theorem xPeek_no {g : Nat} {w : World} (k : Int) (hk : k < 0 ∨ 127 < k) :
    Calls Tryz.prog 54 #[.pointer (some ⟨g, 0, none⟩), .int .i64 k] w fun e w' => e = .returned (.tuple #[.int .u8 0, .int .i64 3]) ∧ Still w w' := by
  rcases hk with hk | hk
  · go_enter Tryz.func54, Tryz.ntmps54
    go_wp2
    go_ret2
    exact ⟨rfl, Kept.refl _ _⟩
  · have hk0 : ¬ k < 0 := by omega
    have hk1 : 128 ≤ k := by omega
    go_enter Tryz.func54, Tryz.ntmps54
    go_wp2
    go_ret2
    exact ⟨rfl, Kept.refl _ _⟩

set_option maxRecDepth 100000 in
set_option maxHeartbeats 1000000 in
theorem xPeek_ok {l : XL} {st : St} {ex : Ext} {w : World} (hr : XRep l st ex w) (k : Nat) (hk : k < 128) :
    Calls Tryz.prog 54 #[.pointer (some ⟨l.g, 0, none⟩), .int .i64 (k : Int)] w fun e w' => e = .returned (.tuple #[.int .u8 (st.mem k), .int .i64 0]) ∧ Still w w' := by
  have c0 := hr.c_me
  have c1 := hr.c_mem k hk
  have hk0 : ¬ (k : Int) < 0 := by omega
  have hk1 : ¬ 128 ≤ (k : Int) := by omega
  go_enter Tryz.func54, Tryz.ntmps54
  go_wp2
  go_ret2
  exact ⟨rfl, Kept.refl _ _⟩

theorem xPeek_any {l : XL} {st : St} {ex : Ext} {w : World} (hr : XRep l st ex w) (k : Int) :
    Calls Tryz.prog 54 #[.pointer (some ⟨l.g, 0, none⟩), .int .i64 k] w fun e w' => e = .returned (.tuple #[.int .u8 (peekOf st k), .int .i64 (peekE k)]) ∧ Still w w' := by
  unfold peekOf peekE
  by_cases h0 : 0 ≤ k ∧ k ≤ 127
  · rw [if_pos h0, if_pos h0]
    have h := xPeek_ok hr k.toNat (by omega)
    rw [Int.toNat_of_nonneg h0.1] at h
    exact h
  · rw [if_neg h0, if_neg h0]
    exact xPeek_no k (by omega)

set_option maxRecDepth 100000 in
set_option maxHeartbeats 1000000 in
theorem nPeek_any {l : XL} {st : St} {ex : Ext} {w : World} (hr : XRep l st ex w) (k : Int) :
    Calls Tryz.prog 40 #[.pointer (some ⟨l.nb, 0, none⟩), .int .i64 k] w fun e w' => e = .returned (.tuple #[.int .u8 (peekOf st k), .int .i64 (peekE k)]) ∧ Still w w' := by
  have c0 := hr.c_nb0
  have H : Hid _ := xPeek_any hr k
  generalize peekOf st k = s at H ⊢
  generalize peekE k = m at H ⊢
  go_enter Tryz.func40, Tryz.ntmps40
  go_wp2_with fail
  refine Calls.mono H.out ?_
  rintro e w1 ⟨rfl, k1⟩
  go_wp2
  go_ret2
  exact ⟨rfl, k1⟩

end Go.Proofs.YtikdbpphbdbdnaaGreat
