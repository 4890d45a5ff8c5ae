/- Built, walked over any board. -/
import Derived.Test.YtikdbpphbdbdnaaBuiltP
import Derived.Deep.RegionHeld3
import Derived.Laws.BitsLemmas
namespace Go.Proofs.Ytikdbpphbdbdnaa
open Go.RowKit
set_option linter.unusedVariables false

set_option maxRecDepth 100000 in
set_option maxHeartbeats 2000000 in
theorem built_walk {B : PB} (hB : PBok B) (a b : ByteArray) (m n pl v s0 s1 : Int) (w : World) (ha : a.size ≤ maxLen) (hb : b.size ≤ maxLen) (m0 : -9223372036854775808 ≤ m) (m1 : m ≤ 9223372036854775807) (n0 : -9223372036854775808 ≤ n) (n1 : n ≤ 9223372036854775807)
    (p0 : -9223372036854775808 ≤ pl) (p1 : pl ≤ 9223372036854775807) (v0 : -9223372036854775808 ≤ v) (v1 : v ≤ 9223372036854775807) (s00 : -9223372036854775808 ≤ s0) (s01 : s0 ≤ 9223372036854775807) (s10 : -9223372036854775808 ≤ s1) (s11 : s1 ≤ 9223372036854775807) :
    Calls Try.prog 3 #[.string a, .string b, .int .i64 m, .int .i64 n, .int .i64 pl, .int .i64 v, .agg #[.int .i64 s0, .int .i64 s1]] w fun e w' => e = .returned (.bool true) ∧ Below w.heap.size w w' := by
  have HK : Hid _ := fun w => knows_any hB w
  have HCa : Hid (∀ w, Calls Try.prog 11 #[.string a] w fun e w' => e = .returned (.string (codeB a)) ∧ w' = w) := fun w => qcode_any a w ha
  have HCb : Hid (∀ w, Calls Try.prog 11 #[.string b] w fun e w' => e = .returned (.string (codeB b)) ∧ w' = w) := fun w => qcode_any b w hb
  have HP : Hid (∀ (c d : Int) w, -9223372036854775808 ≤ c → c ≤ 9223372036854775807 → 0 < d → d ≤ 9223372036854775807 → Calls Try.prog 9 #[.int .i64 c, .int .i64 d] w fun e w' => e = .returned (.int .i64 (pickQ c d)) ∧ w' = w) := fun c d w h1 h2 h3 h4 => qpick_any c d w h1 h2 h3 h4
  have HV : Hid (∀ (s : ByteArray) w, s.size ≤ 65 → Calls Try.prog 12 #[.string s] w fun e w' => e = .returned (.bool (vldB s)) ∧ w' = w) := fun s w h => nValid_any s w (by unfold maxLen; omega)
  have HCh : Hid (∀ (x y : ByteArray) (m n : Int) W, x.size = 64 → y.size = 64 → Calls Try.prog 13 #[.string x, .string y, .agg #[.int .i64 m, .int .i64 n]] W fun e w' => e = .returned (.int .i64 (chooseB x y m n)) ∧ Below W.heap.size W w') := fun x y m n W h1 h2 => nChoose_any x y m n W (by rw [h1]; decide) (by rw [h2]; decide)
  have HBa : Hid _ := fun w => imgQ_build a m w
  have HBb : Hid _ := fun w => imgQ_build b n w
  have z1 := imgQ_s a m
  have z2 := imgQ_s b n
  have q1 := pickQ_bounds m 256 (by omega)
  have q2 := pickQ_bounds n 256 (by omega)
  have q3 := pickQ_bounds pl 64 (by omega)
  have q4 := pickQ_bounds s0 5 (by omega)
  have q5 := pickQ_bounds s1 5 (by omega)
  have hcs := codeB_size a
  have V1 : vldB (imgQ a m) = true := by rw [imgQ_of]; exact image_valid _ _ (codeB_size a)
  have V2 : vldB (imgQ b n) = true := by rw [imgQ_of]; exact image_valid _ _ (codeB_size b)
  have N1 : numB (imgQ a m) = pickQ m 256 := by rw [imgQ_of]; exact image_num _ _ q1.1 (by omega)
  have N2 : numB (imgQ b n) = pickQ n 256 := by rw [imgQ_of]; exact image_num _ _ q2.1 (by omega)
  have X1 : (imgQ a m).extract 2 (2 + (codeB a).size) = codeB a := by rw [imgQ_of]; exact image_code _ _ (codeB_size a)
  generalize imgQ a m = x at *
  generalize imgQ b n = y at *
  go_enter Try.func3, Try.ntmps3
  go_wp2_with fail
  refine Calls.mono (HK.out _) ?_
  rintro e w1 ⟨rfl, b1⟩
  go_wp2_with fail
  refine Calls.mono (HP.out m 256 _ m0 m1 (by omega) (by omega)) ?_
  rintro e u1 ⟨rfl, hv⟩
  obtain rfl := hv.symm
  go_wp2_with fail
  refine Calls.mono (HP.out n 256 _ n0 n1 (by omega) (by omega)) ?_
  rintro e u2 ⟨rfl, hv⟩
  obtain rfl := hv.symm
  go_wp2_with fail
  refine Calls.mono (HCa.out _) ?_
  rintro e u3 ⟨rfl, hv⟩
  obtain rfl := hv.symm
  go_wp2_with fail
  refine Calls.mono (HBa.out _) ?_
  rintro e w2 ⟨rfl, b2⟩
  go_wp2_with fail
  refine Calls.mono (HCb.out _) ?_
  rintro e u3 ⟨rfl, hv⟩
  obtain rfl := hv.symm
  go_wp2_with fail
  refine Calls.mono (HBb.out _) ?_
  rintro e w3 ⟨rfl, b3⟩
  go_wp2_with fail
  refine Calls.mono (HV.out x _ (by omega)) ?_
  rintro e u4 ⟨rfl, hv⟩
  obtain rfl := hv.symm
  rw [V1]
  go_wp2_with fail
  refine Calls.mono (HV.out y _ (by omega)) ?_
  rintro e u4 ⟨rfl, hv⟩
  obtain rfl := hv.symm
  rw [V2]
  have h1x : 1 < x.size := by omega
  have hn1 : ((x[1]'h1x).toNat : Int) = pickQ m 256 := by rw [← numB_eq x h1x]; exact N1
  have bw3 : Below w.heap.size w w3 := ((Below.refl _ w).alloc (Nat.le_refl _) _).trans (((b1.trans (b2.mono b1.size)).trans (b3.mono (Nat.le_trans b1.size b2.size))).mono (by rw [World.size_alloc]; omega))
  have b13 : Below (w.alloc (.cells #[.int .i64 s0, .int .i64 s1] 22)).heap.size (w.alloc (.cells #[.int .i64 s0, .int .i64 s1] 22)) w3 := (b1.trans (b2.mono b1.size)).trans (b3.mono (Nat.le_trans b1.size b2.size))
  have zs : w.heap.size < w3.heap.size := by have := b13.size; rw [World.size_alloc] at this; omega
  have t0 : w3.cell? ⟨w.heap.size, 0, none⟩ = some (.int .i64 s0) := by rw [b13.cell (p := ⟨w.heap.size, 0, none⟩) (by rw [World.size_alloc]; exact Nat.lt_succ_self _)]; simp [go_sem]
  have t1 : w3.cell? ⟨w.heap.size, 1, none⟩ = some (.int .i64 s1) := by rw [b13.cell (p := ⟨w.heap.size, 1, none⟩) (by rw [World.size_alloc]; exact Nat.lt_succ_self _)]; simp [go_sem]
  have tf : ∀ j, w3.frozen? ⟨w.heap.size, j, none⟩ = false := fun j => by rw [b13.frozen (p := ⟨w.heap.size, j, none⟩) (by rw [World.size_alloc]; exact Nat.lt_succ_self _)]; simp [go_sem]
  clear HK HBa HBb b2 b3 b13
  generalize pickQ m 256 = M at *
  subst hn1
  have HZ : Hid _ := And.intro q2 (And.intro q3 (And.intro q4 (And.intro q5 (And.intro V2 (And.intro N2 (And.intro q1 (And.intro N1 (And.intro V1 (And.intro bw3 (And.intro zs (And.intro t0 (And.intro t1 tf))))))))))))
  have HI : Hid _ := And.intro p0 (And.intro p1 (And.intro v0 (And.intro v1 (And.intro s00 (And.intro s01 (And.intro s10 s11))))))
  have hwr : IntKind.i64.wrap ((x[1]'h1x).toNat : Int) = ((x[1]'h1x).toNat : Int) := by rw [IntKind.wrap_i64]; omega
  have hw2 : IntKind.i64.wrap (2 + ((codeB a).size : Int)) = 2 + ((codeB a).size : Int) := by rw [IntKind.wrap_i64]; omega
  have hb0 : (0 : Int) ≤ 2 + ((codeB a).size : Int) := by omega
  have hb1 : (2 : Int) ≤ 2 + ((codeB a).size : Int) := by omega
  have hb2 : 2 + ((codeB a).size : Int) ≤ 64 := by omega
  have hb3 : (2 + ((codeB a).size : Int)).toNat = 2 + (codeB a).size := by omega
  clear q2 q3 q4 q5 V2 N2 q1 N1 V1 bw3 zs t0 t1 tf p0 p1 v0 v1 s00 s01 s10 s11 ha hb m0 m1 n0 n1 b1
  go_wp2_with fail
  go_region_held3 (fun W => True) (trivial) (first | (go_at_call 11; refine Calls.mono (HCa.out _) ?_; rintro e u5 ⟨rfl, rfl⟩))
  clear hb0 hb1 hb2 hb3 hw2 X1 hcs HCa HCb
  obtain ⟨q2, q3, q4, q5, V2, N2, q1, N1, V1, bw3, zs, t0, t1, tf⟩ := HZ.out
  obtain ⟨p0, p1, v0, v1, s00, s01, s10, s11⟩ := HI.out
  clear HZ HI
  obtain ⟨cap, o, hcv, hraw⟩ := bytes_new x w3.drew z1
  obtain ⟨W, hW⟩ : ∃ W, W = w3.drew.drew.alloc o := ⟨_, rfl⟩
  have zW : W.heap.size = w3.heap.size + 1 := by rw [hW, World.size_alloc]; rfl
  have bwW : Below w.heap.size w W := by rw [hW]; exact bw3.drew.drew.alloc bw3.size _
  have kW : ∀ (k j : Nat), k < w3.heap.size → W.cell? ⟨k, j, none⟩ = w3.cell? ⟨k, j, none⟩ ∧ W.frozen? ⟨k, j, none⟩ = w3.frozen? ⟨k, j, none⟩ := fun k j hk => by
    have e : W.heap[k]? = w3.heap[k]? := by rw [hW]; exact Below.heap_alloc _ _ _ hk
    exact ⟨World.cell?_of_block (w := w3) e, World.frozen?_of_block (w := w3) e⟩
  rw [← hW] at hcv hraw
  clear hW
  obtain ⟨K, hK⟩ := Int.eq_ofNat_of_zero_le q3.1
  have hK64 : K < 64 := by omega
  have HPp : Hid (∀ w, Calls Try.prog 9 #[.int .i64 pl, .int .i64 64] w fun e w' => e = .returned (.int .i64 (K : Int)) ∧ w' = w) := fun w => by
    have h := HP.out pl 64 w p0 p1 (by omega) (by omega)
    rw [hK] at h
    exact h
  obtain ⟨d1, g1⟩ := (show Raw w3.heap.size 64 (fun i => .int .u8 (byteAt x i)) W from hraw) K hK64
  have hbx := byteAt_bounds x K
  have HBk : Hid (∀ C, 0 ≤ C → C ≤ 255 → (convert 30 9 (.slice (some ⟨w3.heap.size, 0, none⟩) 64 cap)).run Try.prog (W.setCell ⟨w3.heap.size, K, none⟩ (.int .u8 C)) = .ok (.string (spoilB x K C)) (W.setCell ⟨w3.heap.size, K, none⟩ (.int .u8 C))) := fun C c0 c1 =>
    run_bank _ _ _ _ (fun i => upd_bytes _ _ _ c0 c1 i) (raw_spoil hraw hK64 _)
  have HSb : Hid (∀ C, 0 ≤ C → C ≤ 255 → ¬ C = byteAt x K → vldB (spoilB x K C) = false) := fun C c0 c1 hc => spoil_bad x V1 K hK64 C c0 c1 hc
  have bwX : ∀ C, Below w.heap.size w (W.setCell ⟨w3.heap.size, K, none⟩ (.int .u8 C)) := fun C => bwW.setCell (by have := bw3.size; exact this) _
  have hwv : IntKind.u8.wrap v = v % 256 := by rw [IntKind.wrap_u8]
  clear q3 hK hraw p0 p1
  have HZ : Hid _ := And.intro q2 (And.intro q4 (And.intro q5 (And.intro V2 (And.intro N2 (And.intro q1 (And.intro N1 (And.intro V1 (And.intro zs (And.intro t0 (And.intro t1 (And.intro tf (And.intro kW (And.intro bwX zW)))))))))))))
  have HI : Hid _ := And.intro v0 (And.intro v1 (And.intro s00 (And.intro s01 (And.intro s10 s11))))
  clear q2 q4 q5 V2 N2 q1 N1 V1 zs t0 t1 tf kW bwX v0 v1 s00 s01 s10 s11 bw3 bwW
  have k1 := HBk.out ((v + 1) % 256) (by omega) (by omega)
  have k2 := HBk.out (v % 256) (by omega) (by omega)
  go_wp2_with fail
  refine Calls.mono (HPp.out _) ?_
  rintro e u6 ⟨rfl, hv⟩
  obtain rfl := hv.symm
  by_cases hcc : v % 256 = byteAt x K
  · have hcb : (v % 256 == byteAt x K) = true := by rw [hcc]; simp
    have hvb : vldB (spoilB x K ((v + 1) % 256)) = false := HSb.out _ (by omega) (by omega) (by omega)
    clear hcc
    go_wp2_with fail
    clear hcb
    have hsz : (spoilB x K ((v + 1) % 256)).size = 64 := bankS_len _
    obtain ⟨q2, q4, q5, V2, N2, q1, N1, V1, zs, t0, t1, tf, kW, bwX, zW⟩ := HZ.out
    obtain ⟨X, hX⟩ : ∃ X, X = W.setCell ⟨w3.heap.size, K, none⟩ (.int .u8 ((v + 1) % 256)) := ⟨_, rfl⟩
    have bX : Below w.heap.size w X := by rw [hX]; exact bwX _
    have hne0 : ∀ j, (⟨w3.heap.size, K, none⟩ : Addr) ≠ ⟨w.heap.size, j, none⟩ := fun j h => by have := congrArg Addr.block h; simp at this; omega
    have u0 : X.cell? ⟨w.heap.size, 0, none⟩ = some (.int .i64 s0) := by rw [hX, World.cell?_setCell_other _ _ _ _ (hne0 0), (kW _ 0 zs).1]; exact t0
    have u1 : X.cell? ⟨w.heap.size, 1, none⟩ = some (.int .i64 s1) := by rw [hX, World.cell?_setCell_other _ _ _ _ (hne0 1), (kW _ 1 zs).1]; exact t1
    have uf : ∀ j, X.frozen? ⟨w.heap.size, j, none⟩ = false := fun j => by rw [hX, World.frozen?_setCell, (kW _ j zs).2]; exact tf j
    have zX : w.heap.size < X.heap.size := by rw [hX, World.size_setCell, zW]; omega
    rw [← hX]
    generalize spoilB x K ((v + 1) % 256) = bad at hvb hsz ⊢
    clear hX hne0 t0 t1 tf kW bwX zW zs k1 k2 HBk HSb hbx d1 g1 hcv hwv HPp HP q1 HZ
    refine Calls.mono (HV.out bad _ (by omega)) ?_
    rintro e u7 ⟨rfl, hv⟩
    obtain rfl := hv.symm
    rw [hvb]
    go_wp2_with fail
    refine Calls.mono (HV.out (x.extract 0 63) _ (by rw [ByteArray.size_extract]; omega)) ?_
    rintro e u7 ⟨rfl, hv⟩
    obtain rfl := hv.symm
    rw [vld_size (by rw [ByteArray.size_extract]; omega)]
    go_wp2_with fail
    have h65 : (x ++ (⟨#[0]⟩ : ByteArray)).size = 65 := by rw [ByteArray.size_append, z1]; rfl
    refine Calls.mono (HV.out _ _ (by rw [h65]; omega)) ?_
    rintro e u7 ⟨rfl, hv⟩
    obtain rfl := hv.symm
    rw [vld_size (by rw [h65]; omega)]
    clear h65 HV
    obtain ⟨v0, v1, s00, s01, s10, s11⟩ := HI.out
    have HPa : Hid (∀ w, Calls Try.prog 9 #[.int .i64 s0, .int .i64 5] w fun e w' => e = .returned (.int .i64 (pickQ s0 5)) ∧ w' = w) := fun w => qpick_any s0 5 w s00 s01 (by omega) (by omega)
    have HPb : Hid (∀ w, Calls Try.prog 9 #[.int .i64 s1, .int .i64 5] w fun e w' => e = .returned (.int .i64 (pickQ s1 5)) ∧ w' = w) := fun w => qpick_any s1 5 w s10 s11 (by omega) (by omega)
    have HA : Hid (∀ (S0 S1 : Int), chooseB x y S0 S1 = if (decide (S0 < 3) = decide (S1 < 3) ∧ ((x[1]'h1x).toNat : Int) < pickQ n 256) ∨ (¬ decide (S0 < 3) = decide (S1 < 3) ∧ S1 < 3) then 1 else 0) := fun S0 S1 => by rw [choose_asks x y V1 V2, N1, N2]
    have HBd : Hid (∀ (S0 S1 : Int), chooseB bad y S0 S1 = 1) := fun S0 S1 => choose_bad bad y hvb V2 S0 S1
    have HNn : Hid (∀ (S0 S1 : Int), chooseB bad bad S0 S1 = -1) := fun S0 S1 => choose_none bad hvb S0 S1
    clear V1 V2 N1 N2 hvb v0 v1 s00 s01 s10 s11 HI
    go_wp2
    go_loopw [31] (fun i wx => ∃ (j : Nat) (r0 r1 : Int), j ≤ 2 ∧ i = .int .i64 j ∧ wx.cell? ⟨w.heap.size, 0, none⟩ = some (.int .i64 r0) ∧ wx.cell? ⟨w.heap.size, 1, none⟩ = some (.int .i64 r1) ∧ r0 = (if 0 < j then pickQ s0 5 else s0) ∧ r1 = (if 1 < j then pickQ s1 5 else s1) ∧ (∀ j, wx.frozen? ⟨w.heap.size, j, none⟩ = false) ∧ Below w.heap.size w wx ∧ w.heap.size < wx.heap.size) (fun i _ => 2 - (intOf i).toNat)
    case atStart => exact ⟨0, s0, s1, by omega, rfl, u0, u1, rfl, rfl, uf, bX, zX⟩
    case round =>
      obtain ⟨j, r0, r1, hj, rfl, x0, x1, e0, e1, xf, xb, xz⟩ := hrel
      have f0 := xf 0
      have f1 := xf 1
      clear u0 u1 uf bX zX
      rcases (by omega : j = 0 ∨ j = 1 ∨ j = 2) with rfl | rfl | rfl
      · have e0' : r0 = s0 := e0
        have e1' : r1 = s1 := e1
        subst e0' e1'
        clear e0 e1
        go_wp2_with fail
        refine Calls.mono (HPa.out _) ?_
        rintro e u8 ⟨rfl, hv⟩
        obtain rfl := hv.symm
        go_wp2
        refine ⟨⟨1, pickQ r0 5, r1, by omega, rfl, World.cell?_setCell_same _ _ _ x0, ?_, rfl, rfl, fun j => by rw [World.frozen?_setCell]; exact xf j, xb.setCell (Nat.le_refl _) _, by rw [World.size_setCell]; exact xz⟩, by simp [intOf]⟩
        rw [World.cell?_setCell_other _ _ _ _ (by intro h; have := congrArg Addr.off h; simp at this)]
        exact x1
      · have e0' : r0 = pickQ s0 5 := e0
        have e1' : r1 = s1 := e1
        subst e0' e1'
        clear e0 e1
        go_wp2_with fail
        refine Calls.mono (HPb.out _) ?_
        rintro e u8 ⟨rfl, hv⟩
        obtain rfl := hv.symm
        go_wp2
        refine ⟨⟨2, pickQ s0 5, pickQ r1 5, by omega, rfl, ?_, World.cell?_setCell_same _ _ _ x1, rfl, rfl, fun j => by rw [World.frozen?_setCell]; exact xf j, xb.setCell (Nat.le_refl _) _, by rw [World.size_setCell]; exact xz⟩, by simp [intOf]⟩
        rw [World.cell?_setCell_other _ _ _ _ (by intro h; have := congrArg Addr.off h; simp at this)]
        exact x0
      · have e0' : r0 = pickQ s0 5 := e0
        have e1' : r1 = pickQ s1 5 := e1
        rw [← e0'] at q4
        rw [← e1'] at q5
        clear e0 e1 e0' e1' HPa HPb xf f0 f1
        have HC1 : Hid (∀ W, Calls Try.prog 13 #[.string x, .string y, .agg #[.int .i64 r0, .int .i64 r1]] W fun e w' => e = .returned (.int .i64 (chooseB x y r0 r1)) ∧ Below W.heap.size W w') := fun W => HCh.out x y r0 r1 W z1 z2
        have HC2 : Hid (∀ W, Calls Try.prog 13 #[.string bad, .string y, .agg #[.int .i64 r0, .int .i64 r1]] W fun e w' => e = .returned (.int .i64 1) ∧ Below W.heap.size W w') := fun W => by
          have h := HCh.out bad y r0 r1 W hsz z2
          rw [HBd.out] at h
          exact h
        have HC3 : Hid (∀ W, Calls Try.prog 13 #[.string bad, .string bad, .agg #[.int .i64 r0, .int .i64 r1]] W fun e w' => e = .returned (.int .i64 (-1)) ∧ Below W.heap.size W w') := fun W => by
          have h := HCh.out bad bad r0 r1 W hsz hsz
          rw [HNn.out] at h
          exact h
        have hD0 := HA.out r0 r1
        generalize ((x[1]'h1x).toNat : Int) = M at hD0 ⊢
        generalize pickQ n 256 = N at hD0 ⊢
        clear HBd HNn HA HCh hwr h1x q2 zW
        by_cases h0 : r0 < 3 <;> by_cases h1 : r1 < 3 <;> by_cases hN : M < N
        all_goals
          have hD := hD0
          simp [h0, h1, hN] at hD
          rw [hD] at HC1
          clear hD hD0
          go_wp2_with fail
          refine Calls.mono (HC1.out _) ?_
          rintro e w6 ⟨rfl, b6⟩
          have b6' := xb.trans (b6.mono xb.size)
          have y0 : w6.cell? ⟨w.heap.size, 0, none⟩ = some (.int .i64 r0) := by rw [b6.cell (p := ⟨w.heap.size, 0, none⟩) xz]; exact x0
          have y1 : w6.cell? ⟨w.heap.size, 1, none⟩ = some (.int .i64 r1) := by rw [b6.cell (p := ⟨w.heap.size, 1, none⟩) xz]; exact x1
          have z6 : w.heap.size < w6.heap.size := Nat.lt_of_lt_of_le xz b6.size
          clear b6 HC1
          go_wp2_with fail
          refine Calls.mono (HC2.out _) ?_
          rintro e w7 ⟨rfl, b7⟩
          have b7' := b6'.trans (b7.mono b6'.size)
          have y0' : w7.cell? ⟨w.heap.size, 0, none⟩ = some (.int .i64 r0) := by rw [b7.cell (p := ⟨w.heap.size, 0, none⟩) z6]; exact y0
          have y1' : w7.cell? ⟨w.heap.size, 1, none⟩ = some (.int .i64 r1) := by rw [b7.cell (p := ⟨w.heap.size, 1, none⟩) z6]; exact y1
          have z7 : w.heap.size < w7.heap.size := Nat.lt_of_lt_of_le z6 b7.size
          clear b7 HC2
          go_wp2_with fail
          refine Calls.mono (HC3.out _) ?_
          rintro e w8 ⟨rfl, b8⟩
          have b8' := b7'.trans (b8.mono b7'.size)
          clear b8 HC3
          go_wp2
          go_ret
          exact ⟨rfl, b8'⟩
  · have hcb : (v % 256 == byteAt x K) = false := by simpa using hcc
    have hvb : vldB (spoilB x K (v % 256)) = false := HSb.out _ (by omega) (by omega) hcc
    clear hcc
    go_wp2_with fail
    clear hcb
    have hsz : (spoilB x K (v % 256)).size = 64 := bankS_len _
    obtain ⟨q2, q4, q5, V2, N2, q1, N1, V1, zs, t0, t1, tf, kW, bwX, zW⟩ := HZ.out
    obtain ⟨X, hX⟩ : ∃ X, X = W.setCell ⟨w3.heap.size, K, none⟩ (.int .u8 (v % 256)) := ⟨_, rfl⟩
    have bX : Below w.heap.size w X := by rw [hX]; exact bwX _
    have hne0 : ∀ j, (⟨w3.heap.size, K, none⟩ : Addr) ≠ ⟨w.heap.size, j, none⟩ := fun j h => by have := congrArg Addr.block h; simp at this; omega
    have u0 : X.cell? ⟨w.heap.size, 0, none⟩ = some (.int .i64 s0) := by rw [hX, World.cell?_setCell_other _ _ _ _ (hne0 0), (kW _ 0 zs).1]; exact t0
    have u1 : X.cell? ⟨w.heap.size, 1, none⟩ = some (.int .i64 s1) := by rw [hX, World.cell?_setCell_other _ _ _ _ (hne0 1), (kW _ 1 zs).1]; exact t1
    have uf : ∀ j, X.frozen? ⟨w.heap.size, j, none⟩ = false := fun j => by rw [hX, World.frozen?_setCell, (kW _ j zs).2]; exact tf j
    have zX : w.heap.size < X.heap.size := by rw [hX, World.size_setCell, zW]; omega
    rw [← hX]
    generalize spoilB x K (v % 256) = bad at hvb hsz ⊢
    clear hX hne0 t0 t1 tf kW bwX zW zs k1 k2 HBk HSb hbx d1 g1 hcv hwv HPp HP q1 HZ
    refine Calls.mono (HV.out bad _ (by omega)) ?_
    rintro e u7 ⟨rfl, hv⟩
    obtain rfl := hv.symm
    rw [hvb]
    go_wp2_with fail
    refine Calls.mono (HV.out (x.extract 0 63) _ (by rw [ByteArray.size_extract]; omega)) ?_
    rintro e u7 ⟨rfl, hv⟩
    obtain rfl := hv.symm
    rw [vld_size (by rw [ByteArray.size_extract]; omega)]
    go_wp2_with fail
    have h65 : (x ++ (⟨#[0]⟩ : ByteArray)).size = 65 := by rw [ByteArray.size_append, z1]; rfl
    refine Calls.mono (HV.out _ _ (by rw [h65]; omega)) ?_
    rintro e u7 ⟨rfl, hv⟩
    obtain rfl := hv.symm
    rw [vld_size (by rw [h65]; omega)]
    clear h65 HV
    obtain ⟨v0, v1, s00, s01, s10, s11⟩ := HI.out
    have HPa : Hid (∀ w, Calls Try.prog 9 #[.int .i64 s0, .int .i64 5] w fun e w' => e = .returned (.int .i64 (pickQ s0 5)) ∧ w' = w) := fun w => qpick_any s0 5 w s00 s01 (by omega) (by omega)
    have HPb : Hid (∀ w, Calls Try.prog 9 #[.int .i64 s1, .int .i64 5] w fun e w' => e = .returned (.int .i64 (pickQ s1 5)) ∧ w' = w) := fun w => qpick_any s1 5 w s10 s11 (by omega) (by omega)
    have HA : Hid (∀ (S0 S1 : Int), chooseB x y S0 S1 = if (decide (S0 < 3) = decide (S1 < 3) ∧ ((x[1]'h1x).toNat : Int) < pickQ n 256) ∨ (¬ decide (S0 < 3) = decide (S1 < 3) ∧ S1 < 3) then 1 else 0) := fun S0 S1 => by rw [choose_asks x y V1 V2, N1, N2]
    have HBd : Hid (∀ (S0 S1 : Int), chooseB bad y S0 S1 = 1) := fun S0 S1 => choose_bad bad y hvb V2 S0 S1
    have HNn : Hid (∀ (S0 S1 : Int), chooseB bad bad S0 S1 = -1) := fun S0 S1 => choose_none bad hvb S0 S1
    clear V1 V2 N1 N2 hvb v0 v1 s00 s01 s10 s11 HI
    go_wp2
    go_loopw [31] (fun i wx => ∃ (j : Nat) (r0 r1 : Int), j ≤ 2 ∧ i = .int .i64 j ∧ wx.cell? ⟨w.heap.size, 0, none⟩ = some (.int .i64 r0) ∧ wx.cell? ⟨w.heap.size, 1, none⟩ = some (.int .i64 r1) ∧ r0 = (if 0 < j then pickQ s0 5 else s0) ∧ r1 = (if 1 < j then pickQ s1 5 else s1) ∧ (∀ j, wx.frozen? ⟨w.heap.size, j, none⟩ = false) ∧ Below w.heap.size w wx ∧ w.heap.size < wx.heap.size) (fun i _ => 2 - (intOf i).toNat)
    case atStart => exact ⟨0, s0, s1, by omega, rfl, u0, u1, rfl, rfl, uf, bX, zX⟩
    case round =>
      obtain ⟨j, r0, r1, hj, rfl, x0, x1, e0, e1, xf, xb, xz⟩ := hrel
      have f0 := xf 0
      have f1 := xf 1
      clear u0 u1 uf bX zX
      rcases (by omega : j = 0 ∨ j = 1 ∨ j = 2) with rfl | rfl | rfl
      · have e0' : r0 = s0 := e0
        have e1' : r1 = s1 := e1
        subst e0' e1'
        clear e0 e1
        go_wp2_with fail
        refine Calls.mono (HPa.out _) ?_
        rintro e u8 ⟨rfl, hv⟩
        obtain rfl := hv.symm
        go_wp2
        refine ⟨⟨1, pickQ r0 5, r1, by omega, rfl, World.cell?_setCell_same _ _ _ x0, ?_, rfl, rfl, fun j => by rw [World.frozen?_setCell]; exact xf j, xb.setCell (Nat.le_refl _) _, by rw [World.size_setCell]; exact xz⟩, by simp [intOf]⟩
        rw [World.cell?_setCell_other _ _ _ _ (by intro h; have := congrArg Addr.off h; simp at this)]
        exact x1
      · have e0' : r0 = pickQ s0 5 := e0
        have e1' : r1 = s1 := e1
        subst e0' e1'
        clear e0 e1
        go_wp2_with fail
        refine Calls.mono (HPb.out _) ?_
        rintro e u8 ⟨rfl, hv⟩
        obtain rfl := hv.symm
        go_wp2
        refine ⟨⟨2, pickQ s0 5, pickQ r1 5, by omega, rfl, ?_, World.cell?_setCell_same _ _ _ x1, rfl, rfl, fun j => by rw [World.frozen?_setCell]; exact xf j, xb.setCell (Nat.le_refl _) _, by rw [World.size_setCell]; exact xz⟩, by simp [intOf]⟩
        rw [World.cell?_setCell_other _ _ _ _ (by intro h; have := congrArg Addr.off h; simp at this)]
        exact x0
      · have e0' : r0 = pickQ s0 5 := e0
        have e1' : r1 = pickQ s1 5 := e1
        rw [← e0'] at q4
        rw [← e1'] at q5
        clear e0 e1 e0' e1' HPa HPb xf f0 f1
        have HC1 : Hid (∀ W, Calls Try.prog 13 #[.string x, .string y, .agg #[.int .i64 r0, .int .i64 r1]] W fun e w' => e = .returned (.int .i64 (chooseB x y r0 r1)) ∧ Below W.heap.size W w') := fun W => HCh.out x y r0 r1 W z1 z2
        have HC2 : Hid (∀ W, Calls Try.prog 13 #[.string bad, .string y, .agg #[.int .i64 r0, .int .i64 r1]] W fun e w' => e = .returned (.int .i64 1) ∧ Below W.heap.size W w') := fun W => by
          have h := HCh.out bad y r0 r1 W hsz z2
          rw [HBd.out] at h
          exact h
        have HC3 : Hid (∀ W, Calls Try.prog 13 #[.string bad, .string bad, .agg #[.int .i64 r0, .int .i64 r1]] W fun e w' => e = .returned (.int .i64 (-1)) ∧ Below W.heap.size W w') := fun W => by
          have h := HCh.out bad bad r0 r1 W hsz hsz
          rw [HNn.out] at h
          exact h
        have hD0 := HA.out r0 r1
        generalize ((x[1]'h1x).toNat : Int) = M at hD0 ⊢
        generalize pickQ n 256 = N at hD0 ⊢
        clear HBd HNn HA HCh hwr h1x q2 zW
        by_cases h0 : r0 < 3 <;> by_cases h1 : r1 < 3 <;> by_cases hN : M < N
        all_goals
          have hD := hD0
          simp [h0, h1, hN] at hD
          rw [hD] at HC1
          clear hD hD0
          go_wp2_with fail
          refine Calls.mono (HC1.out _) ?_
          rintro e w6 ⟨rfl, b6⟩
          have b6' := xb.trans (b6.mono xb.size)
          have y0 : w6.cell? ⟨w.heap.size, 0, none⟩ = some (.int .i64 r0) := by rw [b6.cell (p := ⟨w.heap.size, 0, none⟩) xz]; exact x0
          have y1 : w6.cell? ⟨w.heap.size, 1, none⟩ = some (.int .i64 r1) := by rw [b6.cell (p := ⟨w.heap.size, 1, none⟩) xz]; exact x1
          have z6 : w.heap.size < w6.heap.size := Nat.lt_of_lt_of_le xz b6.size
          clear b6 HC1
          go_wp2_with fail
          refine Calls.mono (HC2.out _) ?_
          rintro e w7 ⟨rfl, b7⟩
          have b7' := b6'.trans (b7.mono b6'.size)
          have y0' : w7.cell? ⟨w.heap.size, 0, none⟩ = some (.int .i64 r0) := by rw [b7.cell (p := ⟨w.heap.size, 0, none⟩) z6]; exact y0
          have y1' : w7.cell? ⟨w.heap.size, 1, none⟩ = some (.int .i64 r1) := by rw [b7.cell (p := ⟨w.heap.size, 1, none⟩) z6]; exact y1
          have z7 : w.heap.size < w7.heap.size := Nat.lt_of_lt_of_le z6 b7.size
          clear b7 HC2
          go_wp2_with fail
          refine Calls.mono (HC3.out _) ?_
          rintro e w8 ⟨rfl, b8⟩
          have b8' := b7'.trans (b8.mono b7'.size)
          clear b8 HC3
          go_wp2
          go_ret
          exact ⟨rfl, b8'⟩

end Go.Proofs.Ytikdbpphbdbdnaa
