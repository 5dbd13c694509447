/- A node's kids: no kind. A node's kids: functions and blocks. -/
import Derived.Test.YtkkmeogehapjoaaGreatDoorTB
namespace Go.Proofs.YtkkmeogehapjoaaGreatDoor
section
open Go.RowKit Go.Shelf
set_option maxRecDepth 100000 in
set_option maxHeartbeats 4000000 in
theorem kf_no (l : List Nd) (x : Nd) (ao : Option Addr) (c : Nat) (w : World) (n1 : ¬ x.k = 1) (n2 : ¬ x.k = 2) (n3 : ¬ x.k = 3) (n4 : ¬ x.k = 4) (n5 : ¬ x.k = 5) (n6 : ¬ x.k = 6) (n7 : ¬ x.k = 7) (n10 : ¬ x.k = 10) (n11 : ¬ x.k = 11) (n12 : ¬ x.k = 12) (n13 : ¬ x.k = 13) (n14 : ¬ x.k = 14) (n15 : ¬ x.k = 15) (n16 : ¬ x.k = 16) (n20 : ¬ x.k = 20) (n21 : ¬ x.k = 21) (n22 : ¬ x.k = 22) (n23 : ¬ x.k = 23) (n24 : ¬ x.k = 24) (n25 : ¬ x.k = 25) (n26 : ¬ x.k = 26) (n27 : ¬ x.k = 27) (n30 : ¬ x.k = 30) (n31 : ¬ x.k = 31) (n32 : ¬ x.k = 32) (n33 : ¬ x.k = 33) (n34 : ¬ x.k = 34) (n35 : ¬ x.k = 35) (n36 : ¬ x.k = 36) (n37 : ¬ x.k = 37) (n38 : ¬ x.k = 38) (n39 : ¬ x.k = 39) (n40 : ¬ x.k = 40) (n41 : ¬ x.k = 41) (n42 : ¬ x.k = 42) (n43 : ¬ x.k = 43) (n44 : ¬ x.k = 44) (n45 : ¬ x.k = 45) (n46 : ¬ x.k = 46) (n47 : ¬ x.k = 47) (n50 : ¬ x.k = 50) (n51 : ¬ x.k = 51) (n52 : ¬ x.k = 52) (n53 : ¬ x.k = 53) (n54 : ¬ x.k = 54) (hl : NdA w ao c l) (hks : IsA w x.ka x.kc x.ks) (hi : Inn l x.ks) : Calls Tryz.prog 62 #[.slice ao l.length c, ndv x.k x.nm x.v (.slice x.ka x.ks.length x.kc) x.fr x.en] w fun r w' => r = .returned (.bool (false)) ∧ Below w.heap.size w w' := by
  have HX0 := bx_new l x ao c w hl hks hi
  have b1 : (x.k == 1) = false := by simpa using n1
  have b2 : (x.k == 2) = false := by simpa using n2
  have b3 : (x.k == 3) = false := by simpa using n3
  have b4 : (x.k == 4) = false := by simpa using n4
  have b5 : (x.k == 5) = false := by simpa using n5
  have b6 : (x.k == 6) = false := by simpa using n6
  have b7 : (x.k == 7) = false := by simpa using n7
  have b10 : (x.k == 10) = false := by simpa using n10
  have b11 : (x.k == 11) = false := by simpa using n11
  have b12 : (x.k == 12) = false := by simpa using n12
  have b13 : (x.k == 13) = false := by simpa using n13
  have b14 : (x.k == 14) = false := by simpa using n14
  have b15 : (x.k == 15) = false := by simpa using n15
  have b16 : (x.k == 16) = false := by simpa using n16
  have b20 : (x.k == 20) = false := by simpa using n20
  have b21 : (x.k == 21) = false := by simpa using n21
  have b22 : (x.k == 22) = false := by simpa using n22
  have b23 : (x.k == 23) = false := by simpa using n23
  have b24 : (x.k == 24) = false := by simpa using n24
  have b25 : (x.k == 25) = false := by simpa using n25
  have b26 : (x.k == 26) = false := by simpa using n26
  have b27 : (x.k == 27) = false := by simpa using n27
  have b30 : (x.k == 30) = false := by simpa using n30
  have b31 : (x.k == 31) = false := by simpa using n31
  have b32 : (x.k == 32) = false := by simpa using n32
  have b33 : (x.k == 33) = false := by simpa using n33
  have b34 : (x.k == 34) = false := by simpa using n34
  have b35 : (x.k == 35) = false := by simpa using n35
  have b36 : (x.k == 36) = false := by simpa using n36
  have b37 : (x.k == 37) = false := by simpa using n37
  have b38 : (x.k == 38) = false := by simpa using n38
  have b39 : (x.k == 39) = false := by simpa using n39
  have b40 : (x.k == 40) = false := by simpa using n40
  have b41 : (x.k == 41) = false := by simpa using n41
  have b42 : (x.k == 42) = false := by simpa using n42
  have b43 : (x.k == 43) = false := by simpa using n43
  have b44 : (x.k == 44) = false := by simpa using n44
  have b45 : (x.k == 45) = false := by simpa using n45
  have b46 : (x.k == 46) = false := by simpa using n46
  have b47 : (x.k == 47) = false := by simpa using n47
  have b50 : (x.k == 50) = false := by simpa using n50
  have b51 : (x.k == 51) = false := by simpa using n51
  have b52 : (x.k == 52) = false := by simpa using n52
  have b53 : (x.k == 53) = false := by simpa using n53
  have b54 : (x.k == 54) = false := by simpa using n54
  clear n1 n2 n3 n4 n5 n6 n7 n10 n11 n12 n13 n14 n15 n16 n20 n21 n22 n23 n24 n25 n26 n27 n30 n31 n32 n33 n34 n35 n36 n37 n38 n39 n40 n41 n42 n43 n44 n45 n46 n47 n50 n51 n52 n53 n54
  have hbw : Below w.heap.size w ((w.alloc (.cells #[.slice ao l.length c] 22)).alloc (.cells #[.int .i64 x.k, .string x.nm, .int .i64 x.v, .slice x.ka x.ks.length x.kc, .int .i64 x.fr, .int .i64 x.en] 53)) := (below_cells w _ _).alloc (by simp) _
  have HKS : Hid (IsA w x.ka x.kc x.ks ∧ Inn l x.ks) := ⟨hks, hi⟩
  unfold ndv
  clear hl hks hi
  go_enter Tryz.func62, Tryz.ntmps62
  apply seq_to
  · go_wp2_with fail
    exact At.mk
  obtain ⟨W0, hW0⟩ : ∃ W, W = ((w.alloc (.cells #[.slice ao l.length c] 22)).alloc (.cells #[.int .i64 x.k, .string x.nm, .int .i64 x.v, .slice x.ka x.ks.length x.kc, .int .i64 x.fr, .int .i64 x.en] 53)) := ⟨_, rfl⟩
  rw [← hW0] at HX0 hbw ⊢
  clear hW0
  have HBW : Hid (Below w.heap.size w W0) := hbw
  have a0 : W0.cell? ⟨w.heap.size + 1, 0, none⟩ = some (.int .i64 x.k) := HX0.cs 0 _ rfl
  have a2 : W0.cell? ⟨w.heap.size + 1, 2, none⟩ = some (.int .i64 x.v) := HX0.cs 2 _ rfl
  have a3 : W0.cell? ⟨w.heap.size + 1, 3, none⟩ = some (.slice x.ka x.ks.length x.kc) := HX0.cs 3 _ rfl
  have b0 : W0.cell? ⟨w.heap.size, 0, none⟩ = some (.slice ao l.length c) := HX0.bx
  have HX : Hid (Bx l x ao c w.heap.size (w.heap.size + 1) W0) := HX0
  have HZ : Hid (Below W0.heap.size W0 W0) := Below.refl _ _
  clear hbw HX0
  have HALL : Hid (∀ W (g : Nat), Below W0.heap.size W0 W → g < 18446744073709551616 → Calls Tryz.prog 87 #[.int .u64 (g : Int), .pointer (some ⟨w.heap.size, 0, none⟩), .pointer (some ⟨w.heap.size + 1, 0, none⟩)] W fun e w' => e = .returned (.bool (kAll l x.ks g)) ∧ w' = W) := fun W g hW hg => all87 l x ao c _ _ g W (HX.out.below hW) hg
  have HARE : Hid (∀ W go gc (gs : List Nat), Below W0.heap.size W0 W → GrA W go gc gs → Calls Tryz.prog 85 #[.slice go gs.length gc, .pointer (some ⟨w.heap.size, 0, none⟩), .pointer (some ⟨w.heap.size + 1, 0, none⟩)] W fun e w' => e = .returned (.bool (kAre l x.ks gs)) ∧ Below W.heap.size W w') := fun W go gc gs hW hg => are85 l x gs ao go c _ _ gc W (HX.out.below hW) hg
  apply seq_to
  · go_wp2_with fail
    exact At.mk
  apply seq_to
  · go_wp2_with fail
    exact At.mk
  apply seq_to
  · apply seq_to
    · go_wp2_with fail
      exact At.mk
    apply blk_catch
    apply seq_exit
    apply blk_pass (by decide)
    apply seq_exit
    apply blk_pass (by decide)
    apply seq_exit
    apply blk_pass (by decide)
    apply seq_exit
    apply blk_pass (by decide)
    apply seq_exit
    apply blk_pass (by decide)
    apply seq_exit
    apply blk_pass (by decide)
    apply seq_exit
    apply blk_pass (by decide)
    apply seq_exit
    apply blk_pass (by decide)
    apply seq_exit
    apply blk_pass (by decide)
    apply seq_exit
    apply blk_pass (by decide)
    apply seq_exit
    apply blk_pass (by decide)
    apply seq_exit
    apply blk_pass (by decide)
    apply seq_exit
    apply blk_pass (by decide)
    apply seq_exit
    apply blk_pass (by decide)
    apply seq_exit
    apply blk_pass (by decide)
    apply seq_exit
    apply blk_pass (by decide)
    apply seq_exit
    apply blk_pass (by decide)
    apply seq_exit
    apply blk_pass (by decide)
    apply seq_exit
    apply blk_pass (by decide)
    go_wp2_with fail
    exact At.mk
  go_wp2
  go_ret
  exact ⟨rfl, HBW.out⟩
end
section
open Go.RowKit Go.Shelf
set_option maxRecDepth 100000 in
set_option maxHeartbeats 4000000 in
theorem kf_2 (l : List Nd) (x : Nd) (ao : Option Addr) (c : Nat) (w : World) (hk : x.k = 2) (hl : NdA w ao c l) (hks : IsA w x.ka x.kc x.ks) (hi : Inn l x.ks) : Calls Tryz.prog 62 #[.slice ao l.length c, ndv x.k x.nm x.v (.slice x.ka x.ks.length x.kc) x.fr x.en] w fun r w' => r = .returned (.bool (decide (((x.ks.take (x.ks.length - 2)).length : Int) = x.v) && (kAll l (x.ks.take (x.ks.length - 2)) 128 && kAre l (x.ks.drop (x.ks.length - 2)) [130048, 1048576]))) ∧ Below w.heap.size w w' := by
  have HX0 := bx_new l x ao c w hl hks hi
  rw [hk] at HX0 ⊢
  have hbw : Below w.heap.size w ((w.alloc (.cells #[.slice ao l.length c] 22)).alloc (.cells #[.int .i64 2, .string x.nm, .int .i64 x.v, .slice x.ka x.ks.length x.kc, .int .i64 x.fr, .int .i64 x.en] 53)) := (below_cells w _ _).alloc (by simp) _
  have HKS : Hid (IsA w x.ka x.kc x.ks ∧ Inn l x.ks) := ⟨hks, hi⟩
  unfold ndv
  clear hl hks hi
  go_enter Tryz.func62, Tryz.ntmps62
  apply seq_to
  · go_wp2_with fail
    exact At.mk
  obtain ⟨W0, hW0⟩ : ∃ W, W = ((w.alloc (.cells #[.slice ao l.length c] 22)).alloc (.cells #[.int .i64 2, .string x.nm, .int .i64 x.v, .slice x.ka x.ks.length x.kc, .int .i64 x.fr, .int .i64 x.en] 53)) := ⟨_, rfl⟩
  rw [← hW0] at HX0 hbw ⊢
  clear hW0
  have HBW : Hid (Below w.heap.size w W0) := hbw
  have a0 : W0.cell? ⟨w.heap.size + 1, 0, none⟩ = some (.int .i64 2) := by rw [← hk]; exact HX0.cs 0 _ rfl
  have a2 : W0.cell? ⟨w.heap.size + 1, 2, none⟩ = some (.int .i64 x.v) := HX0.cs 2 _ rfl
  have a3 : W0.cell? ⟨w.heap.size + 1, 3, none⟩ = some (.slice x.ka x.ks.length x.kc) := HX0.cs 3 _ rfl
  have b0 : W0.cell? ⟨w.heap.size, 0, none⟩ = some (.slice ao l.length c) := HX0.bx
  have HX : Hid (Bx l x ao c w.heap.size (w.heap.size + 1) W0) := HX0
  have HZ : Hid (Below W0.heap.size W0 W0) := Below.refl _ _
  clear hbw HX0 hk
  have HALL : Hid (∀ W (g : Nat), Below W0.heap.size W0 W → g < 18446744073709551616 → Calls Tryz.prog 87 #[.int .u64 (g : Int), .pointer (some ⟨w.heap.size, 0, none⟩), .pointer (some ⟨w.heap.size + 1, 0, none⟩)] W fun e w' => e = .returned (.bool (kAll l x.ks g)) ∧ w' = W) := fun W g hW hg => all87 l x ao c _ _ g W (HX.out.below hW) hg
  have HARE : Hid (∀ W go gc (gs : List Nat), Below W0.heap.size W0 W → GrA W go gc gs → Calls Tryz.prog 85 #[.slice go gs.length gc, .pointer (some ⟨w.heap.size, 0, none⟩), .pointer (some ⟨w.heap.size + 1, 0, none⟩)] W fun e w' => e = .returned (.bool (kAre l x.ks gs)) ∧ Below W.heap.size W w') := fun W go gc gs hW hg => are85 l x gs ao go c _ _ gc W (HX.out.below hW) hg
  apply seq_to
  · go_wp2_with fail
    exact At.mk
  apply seq_to
  · go_wp2_with fail
    exact At.mk
  refine cut_ret ?_
  apply seq_ret
  apply seq_to
  · go_wp2_with fail
    exact At.mk
  apply blk_ret
  apply seq_ret
  apply blk_ret
  apply seq_ret
  apply blk_ret
  apply seq_ret
  apply blk_ret
  apply seq_ret
  apply blk_ret
  apply seq_ret
  apply blk_ret
  apply seq_ret
  apply blk_ret
  apply seq_ret
  apply blk_ret
  apply seq_ret
  apply blk_ret
  apply seq_ret
  apply blk_ret
  apply seq_ret
  apply blk_ret
  apply seq_ret
  apply blk_ret
  apply seq_ret
  apply blk_ret
  apply seq_ret
  apply blk_ret
  apply seq_ret
  apply blk_ret
  apply seq_ret
  apply blk_ret
  apply seq_ret
  apply blk_ret
  apply seq_ret
  apply blk_ret
  apply seq_to
  · apply blk_catch
    apply seq_exit
    apply blk_pass (by decide)
    go_wp2_with fail
    exact At.mk
  apply seq_ret
  go_wp2_with fail
  refine (cut89 x.ks x.ka x.kc 2 W0 HX.out.ks (by omega)).mono ?_
  rintro e w1 ⟨⟨nn, rfl⟩, p1, c1, p2, c2, rfl, i1, i2⟩
  have N1 : Inn l (x.ks.take (x.ks.length - 2)) := fun y hy => HX.out.inn y (List.mem_of_mem_take hy)
  have N2 : Inn l (x.ks.drop (x.ks.length - 2)) := fun y hy => HX.out.inn y (List.mem_of_mem_drop hy)
  have HB0 : Hid (Below W0.heap.size W0 (W0.drewN nn)) := drew_below W0 nn
  have HB1 : Hid (Below w.heap.size w (W0.drewN nn)) := HBW.out.trans (HB0.out.mono HBW.out.size)
  have b0 : (W0.drewN nn).cell? ⟨w.heap.size, 0, none⟩ = some (.slice ao l.length c) := (HX.out.below HB0.out).bx
  have a2 : (W0.drewN nn).cell? ⟨w.heap.size + 1, 2, none⟩ = some (.int .i64 x.v) := (HX.out.below HB0.out).cs 2 _ rfl
  obtain ⟨lt, hlt⟩ : ∃ lt, (x.ks.take (x.ks.length - 2)) = lt := ⟨_, rfl⟩
  obtain ⟨ld, hld⟩ : ∃ ld, (x.ks.drop (x.ks.length - 2)) = ld := ⟨_, rfl⟩
  have HE : Hid ((x.ks.take (x.ks.length - 2)) = lt ∧ (x.ks.drop (x.ks.length - 2)) = ld) := ⟨hlt, hld⟩
  rw [hlt] at i1 N1 ⊢
  rw [hld] at i2 N2 ⊢
  clear hlt hld
  have H88 : Hid (∀ W, Below W0.heap.size W0 W → Calls Tryz.prog 88 #[.slice ao l.length c, .slice p1 lt.length c1, .int .u64 (128 : Nat)] W fun e w' => e = .returned (.bool (kAll l lt 128)) ∧ w' = W) := fun W hW => kindsAll88 l lt ao p1 c c1 128 W (HX.out.below hW).nd (i1.below hW) N1 (by decide)
  have H86 : Hid (∀ W go gc (gs : List Nat), Below W0.heap.size W0 W → GrA W go gc gs → Calls Tryz.prog 86 #[.slice ao l.length c, .slice p2 ld.length c2, .slice go gs.length gc] W fun e w' => e = .returned (.bool (kAre l ld gs)) ∧ Below W.heap.size W w') := fun W go gc gs hW hg => kindsAre86 l ld gs ao p2 go c c2 gc W (HX.out.below hW).nd (i2.below hW) N2 hg
  clear i1 i2 N1 N2
  generalize hn1 : lt.length = n1 at *
  generalize hn2 : ld.length = n2 at *
  have HQ : Hid (lt.length = n1) := hn1
  clear hn1 hn2
  generalize W0.drewN nn = W1 at *
  by_cases h1 : (n1 : Int) = x.v
  · have h1b : ((n1 : Int) == x.v) = true := by simpa using h1
    cases h2 : kAll l lt 128
    · rw [h2] at H88
      go_wp2_with fail
      refine (H88.out _ HB0.out).mono ?_
      rintro e w' ⟨rfl, rfl⟩
      go_wp2
      refine Rt.mk ?_
      go_ret
      exact ⟨ret_bool (by rw [HE.out.1, h2, Bool.false_and, Bool.and_false]), HB1.out⟩
    · rw [h2] at H88
      go_wp2_with fail
      refine (H88.out _ HB0.out).mono ?_
      rintro e w' ⟨rfl, rfl⟩
      go_wp2_with fail
      refine (H86.out _ _ _ [130048, 1048576] (HB0.out.alloc HB0.out.size _) (gr_2 _ 130048 1048576 _ (by decide) (by decide))).mono ?_
      rintro e w2 ⟨rfl, hb⟩
      have HB2 : Hid (Below w.heap.size w w2) := (HB1.out.alloc HB1.out.size _).trans (hb.mono (by have := HB1.out.size; simp; omega))
      clear hb
      go_wp2
      refine Rt.mk ?_
      go_ret
      exact ⟨ret_bool (by rw [HE.out.1, HE.out.2, HQ.out, decide_eq_true h1, h2, Bool.true_and, Bool.true_and]), HB2.out⟩
  · have h1b : ((n1 : Int) == x.v) = false := by simpa using h1
    go_wp2_with fail
    refine Rt.mk ?_
    go_ret
    exact ⟨ret_bool (by rw [HE.out.1, HQ.out, decide_eq_false h1, Bool.false_and]), HB1.out⟩
set_option maxRecDepth 100000 in
set_option maxHeartbeats 4000000 in
theorem kf_20 (l : List Nd) (x : Nd) (ao : Option Addr) (c : Nat) (w : World) (hk : x.k = 20) (hl : NdA w ao c l) (hks : IsA w x.ka x.kc x.ks) (hi : Inn l x.ks) (hv : x.v = 0 ∨ x.v = 1) : Calls Tryz.prog 62 #[.slice ao l.length c, ndv x.k x.nm x.v (.slice x.ka x.ks.length x.kc) x.fr x.en] w fun r w' => r = .returned (.bool (decide (((x.ks.drop (x.ks.length - x.v.toNat)).length : Int) = x.v) && (kAll l (x.ks.take (x.ks.length - x.v.toNat)) 266338304 && kAll l (x.ks.drop (x.ks.length - x.v.toNat)) 140667696185344))) ∧ Below w.heap.size w w' := by
  obtain ⟨vn, hvn, hv1⟩ : ∃ vn : Nat, x.v = vn ∧ vn ≤ 1 := ⟨x.v.toNat, by omega, by omega⟩
  have HVN : Hid (x.v = vn) := hvn
  have hvt : x.v.toNat = vn := by omega
  rw [hvt]
  clear hv hvn hvt
  have HX0 := bx_new l x ao c w hl hks hi
  rw [hk] at HX0 ⊢
  have hbw : Below w.heap.size w ((w.alloc (.cells #[.slice ao l.length c] 22)).alloc (.cells #[.int .i64 20, .string x.nm, .int .i64 x.v, .slice x.ka x.ks.length x.kc, .int .i64 x.fr, .int .i64 x.en] 53)) := (below_cells w _ _).alloc (by simp) _
  have HKS : Hid (IsA w x.ka x.kc x.ks ∧ Inn l x.ks) := ⟨hks, hi⟩
  unfold ndv
  clear hl hks hi
  go_enter Tryz.func62, Tryz.ntmps62
  apply seq_to
  · go_wp2_with fail
    exact At.mk
  obtain ⟨W0, hW0⟩ : ∃ W, W = ((w.alloc (.cells #[.slice ao l.length c] 22)).alloc (.cells #[.int .i64 20, .string x.nm, .int .i64 x.v, .slice x.ka x.ks.length x.kc, .int .i64 x.fr, .int .i64 x.en] 53)) := ⟨_, rfl⟩
  rw [← hW0] at HX0 hbw ⊢
  clear hW0
  have HBW : Hid (Below w.heap.size w W0) := hbw
  have a0 : W0.cell? ⟨w.heap.size + 1, 0, none⟩ = some (.int .i64 20) := by rw [← hk]; exact HX0.cs 0 _ rfl
  have a2 : W0.cell? ⟨w.heap.size + 1, 2, none⟩ = some (.int .i64 x.v) := HX0.cs 2 _ rfl
  have a3 : W0.cell? ⟨w.heap.size + 1, 3, none⟩ = some (.slice x.ka x.ks.length x.kc) := HX0.cs 3 _ rfl
  have b0 : W0.cell? ⟨w.heap.size, 0, none⟩ = some (.slice ao l.length c) := HX0.bx
  have HX : Hid (Bx l x ao c w.heap.size (w.heap.size + 1) W0) := HX0
  have HZ : Hid (Below W0.heap.size W0 W0) := Below.refl _ _
  clear hbw HX0 hk
  have HALL : Hid (∀ W (g : Nat), Below W0.heap.size W0 W → g < 18446744073709551616 → Calls Tryz.prog 87 #[.int .u64 (g : Int), .pointer (some ⟨w.heap.size, 0, none⟩), .pointer (some ⟨w.heap.size + 1, 0, none⟩)] W fun e w' => e = .returned (.bool (kAll l x.ks g)) ∧ w' = W) := fun W g hW hg => all87 l x ao c _ _ g W (HX.out.below hW) hg
  have HARE : Hid (∀ W go gc (gs : List Nat), Below W0.heap.size W0 W → GrA W go gc gs → Calls Tryz.prog 85 #[.slice go gs.length gc, .pointer (some ⟨w.heap.size, 0, none⟩), .pointer (some ⟨w.heap.size + 1, 0, none⟩)] W fun e w' => e = .returned (.bool (kAre l x.ks gs)) ∧ Below W.heap.size W w') := fun W go gc gs hW hg => are85 l x gs ao go c _ _ gc W (HX.out.below hW) hg
  apply seq_to
  · go_wp2_with fail
    exact At.mk
  apply seq_to
  · go_wp2_with fail
    exact At.mk
  refine cut_ret ?_
  apply seq_ret
  apply seq_to
  · go_wp2_with fail
    exact At.mk
  apply blk_ret
  apply seq_ret
  apply blk_ret
  apply seq_ret
  apply blk_ret
  apply seq_ret
  apply blk_ret
  apply seq_ret
  apply blk_ret
  apply seq_ret
  apply blk_ret
  apply seq_ret
  apply blk_ret
  apply seq_ret
  apply blk_ret
  apply seq_ret
  apply blk_ret
  apply seq_ret
  apply blk_ret
  apply seq_ret
  apply blk_ret
  apply seq_ret
  apply blk_ret
  apply seq_ret
  apply blk_ret
  apply seq_to
  · apply blk_catch
    apply seq_exit
    apply blk_pass (by decide)
    apply seq_exit
    apply blk_pass (by decide)
    apply seq_exit
    apply blk_pass (by decide)
    apply seq_exit
    apply blk_pass (by decide)
    apply seq_exit
    apply blk_pass (by decide)
    apply seq_exit
    apply blk_pass (by decide)
    go_wp2_with fail
    exact At.mk
  apply seq_ret
  go_wp2_with fail
  rw [HVN.out]
  refine (cut89 x.ks x.ka x.kc vn W0 HX.out.ks (by omega)).mono ?_
  rintro e w1 ⟨⟨nn, rfl⟩, p1, c1, p2, c2, rfl, i1, i2⟩
  have N1 : Inn l (x.ks.take (x.ks.length - vn)) := fun y hy => HX.out.inn y (List.mem_of_mem_take hy)
  have N2 : Inn l (x.ks.drop (x.ks.length - vn)) := fun y hy => HX.out.inn y (List.mem_of_mem_drop hy)
  have HB0 : Hid (Below W0.heap.size W0 (W0.drewN nn)) := drew_below W0 nn
  have HB1 : Hid (Below w.heap.size w (W0.drewN nn)) := HBW.out.trans (HB0.out.mono HBW.out.size)
  have b0 : (W0.drewN nn).cell? ⟨w.heap.size, 0, none⟩ = some (.slice ao l.length c) := (HX.out.below HB0.out).bx
  have a2 : (W0.drewN nn).cell? ⟨w.heap.size + 1, 2, none⟩ = some (.int .i64 x.v) := (HX.out.below HB0.out).cs 2 _ rfl
  obtain ⟨lt, hlt⟩ : ∃ lt, (x.ks.take (x.ks.length - vn)) = lt := ⟨_, rfl⟩
  obtain ⟨ld, hld⟩ : ∃ ld, (x.ks.drop (x.ks.length - vn)) = ld := ⟨_, rfl⟩
  have HE : Hid ((x.ks.take (x.ks.length - vn)) = lt ∧ (x.ks.drop (x.ks.length - vn)) = ld) := ⟨hlt, hld⟩
  rw [hlt] at i1 N1 ⊢
  rw [hld] at i2 N2 ⊢
  clear hlt hld
  have H88 : Hid (∀ W, Below W0.heap.size W0 W → Calls Tryz.prog 88 #[.slice ao l.length c, .slice p1 lt.length c1, .int .u64 (266338304 : Nat)] W fun e w' => e = .returned (.bool (kAll l lt 266338304)) ∧ w' = W) := fun W hW => kindsAll88 l lt ao p1 c c1 266338304 W (HX.out.below hW).nd (i1.below hW) N1 (by decide)
  have H89 : Hid (∀ W, Below W0.heap.size W0 W → Calls Tryz.prog 88 #[.slice ao l.length c, .slice p2 ld.length c2, .int .u64 (140667696185344 : Nat)] W fun e w' => e = .returned (.bool (kAll l ld 140667696185344)) ∧ w' = W) := fun W hW => kindsAll88 l ld ao p2 c c2 140667696185344 W (HX.out.below hW).nd (i2.below hW) N2 (by decide)
  clear i1 i2 N1 N2
  generalize hn1 : lt.length = n1 at *
  generalize hn2 : ld.length = n2 at *
  have HQ : Hid (ld.length = n2) := hn2
  clear hn1 hn2
  generalize W0.drewN nn = W1 at *
  by_cases h1 : (n2 : Int) = x.v
  · have h1b : ((n2 : Int) == x.v) = true := by simpa using h1
    cases h2 : kAll l lt 266338304
    · rw [h2] at H88
      go_wp2_with fail
      refine (H88.out _ HB0.out).mono ?_
      rintro e w' ⟨rfl, rfl⟩
      go_wp2
      refine Rt.mk ?_
      go_ret
      exact ⟨ret_bool (by rw [HE.out.1, h2, Bool.false_and, Bool.and_false]), HB1.out⟩
    · rw [h2] at H88
      go_wp2_with fail
      refine (H88.out _ HB0.out).mono ?_
      rintro e w' ⟨rfl, rfl⟩
      go_wp2_with fail
      refine (H89.out _ HB0.out).mono ?_
      rintro e w' ⟨rfl, rfl⟩
      have HB2 := HB1
      go_wp2
      refine Rt.mk ?_
      go_ret
      exact ⟨ret_bool (by rw [HE.out.1, HE.out.2, HQ.out, decide_eq_true h1, h2, Bool.true_and, Bool.true_and]), HB2.out⟩
  · have h1b : ((n2 : Int) == x.v) = false := by simpa using h1
    go_wp2_with fail
    refine Rt.mk ?_
    go_ret
    exact ⟨ret_bool (by rw [HE.out.2, HQ.out, decide_eq_false h1, Bool.false_and]), HB1.out⟩
end
end Go.Proofs.YtkkmeogehapjoaaGreatDoor
