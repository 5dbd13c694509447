/- A node's kids: kinds whose kids may be left out. -/
import Derived.Test.YtkkmeogehapjoaaGreatDoorTB
namespace Go.Proofs.YtkkmeogehapjoaaGreatDoor
open Go.RowKit Go.Shelf
set_option maxRecDepth 100000 in
set_option maxHeartbeats 4000000 in
theorem kf_6_e (l : List Nd) (x : Nd) (ao : Option Addr) (c : Nat) (w : World) (hk : x.k = 6) (hl : NdA w ao c l) (hks : IsA w x.ka x.kc x.ks) (hi : Inn l x.ks) (hz : x.ks.length = 0) : Calls Tryz.prog 62 #[.slice ao l.length c, ndv x.k x.nm x.v (.slice x.ka x.ks.length x.kc) x.fr x.en] w fun r w' => r = .returned (.bool (true)) ∧ Below w.heap.size w w' := by
  have HZL : Hid (x.ks.length = 0) := hz
  clear hz
  have HX0 := bx_new l x ao c w hl hks hi
  rw [hk] at HX0 ⊢
  have hbw : Below w.heap.size w ((w.alloc (.cells #[.slice ao l.length c] 22)).alloc (.cells #[.int .i64 6, .string x.nm, .int .i64 x.v, .slice x.ka x.ks.length x.kc, .int .i64 x.fr, .int .i64 x.en] 53)) := (below_cells w _ _).alloc (by simp) _
  have HKS : Hid (IsA w x.ka x.kc x.ks ∧ Inn l x.ks) := ⟨hks, hi⟩
  unfold ndv
  clear hl hks hi
  go_enter Tryz.func62, Tryz.ntmps62
  apply seq_to
  · go_wp2_with fail
    exact At.mk
  obtain ⟨W0, hW0⟩ : ∃ W, W = ((w.alloc (.cells #[.slice ao l.length c] 22)).alloc (.cells #[.int .i64 6, .string x.nm, .int .i64 x.v, .slice x.ka x.ks.length x.kc, .int .i64 x.fr, .int .i64 x.en] 53)) := ⟨_, rfl⟩
  rw [← hW0] at HX0 hbw ⊢
  clear hW0
  have HBW : Hid (Below w.heap.size w W0) := hbw
  have a0 : W0.cell? ⟨w.heap.size + 1, 0, none⟩ = some (.int .i64 6) := by rw [← hk]; exact HX0.cs 0 _ rfl
  have a2 : W0.cell? ⟨w.heap.size + 1, 2, none⟩ = some (.int .i64 x.v) := HX0.cs 2 _ rfl
  have a3 : W0.cell? ⟨w.heap.size + 1, 3, none⟩ = some (.slice x.ka x.ks.length x.kc) := HX0.cs 3 _ rfl
  have b0 : W0.cell? ⟨w.heap.size, 0, none⟩ = some (.slice ao l.length c) := HX0.bx
  have HX : Hid (Bx l x ao c w.heap.size (w.heap.size + 1) W0) := HX0
  have HZ : Hid (Below W0.heap.size W0 W0) := Below.refl _ _
  clear hbw HX0 hk
  have HALL : Hid (∀ W (g : Nat), Below W0.heap.size W0 W → g < 18446744073709551616 → Calls Tryz.prog 87 #[.int .u64 (g : Int), .pointer (some ⟨w.heap.size, 0, none⟩), .pointer (some ⟨w.heap.size + 1, 0, none⟩)] W fun e w' => e = .returned (.bool (kAll l x.ks g)) ∧ w' = W) := fun W g hW hg => all87 l x ao c _ _ g W (HX.out.below hW) hg
  have HARE : Hid (∀ W go gc (gs : List Nat), Below W0.heap.size W0 W → GrA W go gc gs → Calls Tryz.prog 85 #[.slice go gs.length gc, .pointer (some ⟨w.heap.size, 0, none⟩), .pointer (some ⟨w.heap.size + 1, 0, none⟩)] W fun e w' => e = .returned (.bool (kAre l x.ks gs)) ∧ Below W.heap.size W w') := fun W go gc gs hW hg => are85 l x gs ao go c _ _ gc W (HX.out.below hW) hg
  apply seq_to
  · go_wp2_with fail
    exact At.mk
  apply seq_to
  · go_wp2_with fail
    exact At.mk
  refine cut_ret ?_
  apply seq_ret
  apply seq_to
  · go_wp2_with fail
    exact At.mk
  apply blk_ret
  apply seq_ret
  apply blk_ret
  apply seq_ret
  apply blk_ret
  apply seq_ret
  apply blk_ret
  apply seq_ret
  apply blk_ret
  apply seq_ret
  apply blk_ret
  apply seq_ret
  apply blk_ret
  apply seq_ret
  apply blk_ret
  apply seq_ret
  apply blk_ret
  apply seq_ret
  apply blk_ret
  apply seq_ret
  apply blk_ret
  apply seq_ret
  apply blk_ret
  apply seq_ret
  apply blk_ret
  apply seq_ret
  apply blk_ret
  apply seq_ret
  apply blk_ret
  apply seq_to
  · apply blk_catch
    apply seq_exit
    apply blk_pass (by decide)
    apply seq_exit
    apply blk_pass (by decide)
    apply seq_exit
    apply blk_pass (by decide)
    apply seq_exit
    apply blk_pass (by decide)
    go_wp2_with fail
    exact At.mk
  have hz0 : ((x.ks.length : Int) == 0) = true := by simp [HZL.out]
  go_wp2_with fail
  refine Rt.mk ?_
  go_ret
  exact ⟨rfl, HBW.out⟩
set_option maxRecDepth 100000 in
set_option maxHeartbeats 4000000 in
theorem kf_6_n (l : List Nd) (x : Nd) (ao : Option Addr) (c : Nat) (w : World) (hk : x.k = 6) (hl : NdA w ao c l) (hks : IsA w x.ka x.kc x.ks) (hi : Inn l x.ks) (hz : ¬ x.ks.length = 0) : Calls Tryz.prog 62 #[.slice ao l.length c, ndv x.k x.nm x.v (.slice x.ka x.ks.length x.kc) x.fr x.en] w fun r w' => r = .returned (.bool (kAre l x.ks [130048])) ∧ Below w.heap.size w w' := by
  have HZL : Hid (¬ x.ks.length = 0) := hz
  clear hz
  have HX0 := bx_new l x ao c w hl hks hi
  rw [hk] at HX0 ⊢
  have hbw : Below w.heap.size w ((w.alloc (.cells #[.slice ao l.length c] 22)).alloc (.cells #[.int .i64 6, .string x.nm, .int .i64 x.v, .slice x.ka x.ks.length x.kc, .int .i64 x.fr, .int .i64 x.en] 53)) := (below_cells w _ _).alloc (by simp) _
  have HKS : Hid (IsA w x.ka x.kc x.ks ∧ Inn l x.ks) := ⟨hks, hi⟩
  unfold ndv
  clear hl hks hi
  go_enter Tryz.func62, Tryz.ntmps62
  apply seq_to
  · go_wp2_with fail
    exact At.mk
  obtain ⟨W0, hW0⟩ : ∃ W, W = ((w.alloc (.cells #[.slice ao l.length c] 22)).alloc (.cells #[.int .i64 6, .string x.nm, .int .i64 x.v, .slice x.ka x.ks.length x.kc, .int .i64 x.fr, .int .i64 x.en] 53)) := ⟨_, rfl⟩
  rw [← hW0] at HX0 hbw ⊢
  clear hW0
  have HBW : Hid (Below w.heap.size w W0) := hbw
  have a0 : W0.cell? ⟨w.heap.size + 1, 0, none⟩ = some (.int .i64 6) := by rw [← hk]; exact HX0.cs 0 _ rfl
  have a2 : W0.cell? ⟨w.heap.size + 1, 2, none⟩ = some (.int .i64 x.v) := HX0.cs 2 _ rfl
  have a3 : W0.cell? ⟨w.heap.size + 1, 3, none⟩ = some (.slice x.ka x.ks.length x.kc) := HX0.cs 3 _ rfl
  have b0 : W0.cell? ⟨w.heap.size, 0, none⟩ = some (.slice ao l.length c) := HX0.bx
  have HX : Hid (Bx l x ao c w.heap.size (w.heap.size + 1) W0) := HX0
  have HZ : Hid (Below W0.heap.size W0 W0) := Below.refl _ _
  clear hbw HX0 hk
  have HALL : Hid (∀ W (g : Nat), Below W0.heap.size W0 W → g < 18446744073709551616 → Calls Tryz.prog 87 #[.int .u64 (g : Int), .pointer (some ⟨w.heap.size, 0, none⟩), .pointer (some ⟨w.heap.size + 1, 0, none⟩)] W fun e w' => e = .returned (.bool (kAll l x.ks g)) ∧ w' = W) := fun W g hW hg => all87 l x ao c _ _ g W (HX.out.below hW) hg
  have HARE : Hid (∀ W go gc (gs : List Nat), Below W0.heap.size W0 W → GrA W go gc gs → Calls Tryz.prog 85 #[.slice go gs.length gc, .pointer (some ⟨w.heap.size, 0, none⟩), .pointer (some ⟨w.heap.size + 1, 0, none⟩)] W fun e w' => e = .returned (.bool (kAre l x.ks gs)) ∧ Below W.heap.size W w') := fun W go gc gs hW hg => are85 l x gs ao go c _ _ gc W (HX.out.below hW) hg
  apply seq_to
  · go_wp2_with fail
    exact At.mk
  apply seq_to
  · go_wp2_with fail
    exact At.mk
  refine cut_ret ?_
  apply seq_ret
  apply seq_to
  · go_wp2_with fail
    exact At.mk
  apply blk_ret
  apply seq_ret
  apply blk_ret
  apply seq_ret
  apply blk_ret
  apply seq_ret
  apply blk_ret
  apply seq_ret
  apply blk_ret
  apply seq_ret
  apply blk_ret
  apply seq_ret
  apply blk_ret
  apply seq_ret
  apply blk_ret
  apply seq_ret
  apply blk_ret
  apply seq_ret
  apply blk_ret
  apply seq_ret
  apply blk_ret
  apply seq_ret
  apply blk_ret
  apply seq_ret
  apply blk_ret
  apply seq_ret
  apply blk_ret
  have hz0 : ((x.ks.length : Int) == 0) = false := by rw [← Bool.not_eq_true]; intro h; have := HZL.out; simp at h; rw [h] at this; exact this rfl
  apply seq_to
  · apply blk_norm
    apply seq_to
    · apply blk_catch
      apply seq_exit
      apply blk_pass (by decide)
      apply seq_exit
      apply blk_pass (by decide)
      apply seq_exit
      apply blk_pass (by decide)
      apply seq_exit
      apply blk_pass (by decide)
      go_wp2_with fail
      exact At.mk
    go_wp2_with fail
    exact At.mk
  apply seq_ret
  go_wp2_with fail
  refine (HARE.out _ _ _ [130048] (HZ.out.alloc HZ.out.size _) (gr_1 _ 130048 _ (by decide))).mono ?_
  rintro e w1 ⟨rfl, hb⟩
  have HB1 : Hid (Below w.heap.size w w1) := (HBW.out.alloc HBW.out.size _).trans (hb.mono (by have := HBW.out.size; simp; omega))
  clear hb
  go_wp2
  refine Rt.mk ?_
  go_ret
  exact ⟨rfl, HB1.out⟩
set_option maxRecDepth 100000 in
set_option maxHeartbeats 4000000 in
theorem kf_25_e (l : List Nd) (x : Nd) (ao : Option Addr) (c : Nat) (w : World) (hk : x.k = 25) (hl : NdA w ao c l) (hks : IsA w x.ka x.kc x.ks) (hi : Inn l x.ks) (hz : x.ks.length = 0) : Calls Tryz.prog 62 #[.slice ao l.length c, ndv x.k x.nm x.v (.slice x.ka x.ks.length x.kc) x.fr x.en] w fun r w' => r = .returned (.bool (true)) ∧ Below w.heap.size w w' := by
  have HZL : Hid (x.ks.length = 0) := hz
  clear hz
  have HX0 := bx_new l x ao c w hl hks hi
  rw [hk] at HX0 ⊢
  have hbw : Below w.heap.size w ((w.alloc (.cells #[.slice ao l.length c] 22)).alloc (.cells #[.int .i64 25, .string x.nm, .int .i64 x.v, .slice x.ka x.ks.length x.kc, .int .i64 x.fr, .int .i64 x.en] 53)) := (below_cells w _ _).alloc (by simp) _
  have HKS : Hid (IsA w x.ka x.kc x.ks ∧ Inn l x.ks) := ⟨hks, hi⟩
  unfold ndv
  clear hl hks hi
  go_enter Tryz.func62, Tryz.ntmps62
  apply seq_to
  · go_wp2_with fail
    exact At.mk
  obtain ⟨W0, hW0⟩ : ∃ W, W = ((w.alloc (.cells #[.slice ao l.length c] 22)).alloc (.cells #[.int .i64 25, .string x.nm, .int .i64 x.v, .slice x.ka x.ks.length x.kc, .int .i64 x.fr, .int .i64 x.en] 53)) := ⟨_, rfl⟩
  rw [← hW0] at HX0 hbw ⊢
  clear hW0
  have HBW : Hid (Below w.heap.size w W0) := hbw
  have a0 : W0.cell? ⟨w.heap.size + 1, 0, none⟩ = some (.int .i64 25) := by rw [← hk]; exact HX0.cs 0 _ rfl
  have a2 : W0.cell? ⟨w.heap.size + 1, 2, none⟩ = some (.int .i64 x.v) := HX0.cs 2 _ rfl
  have a3 : W0.cell? ⟨w.heap.size + 1, 3, none⟩ = some (.slice x.ka x.ks.length x.kc) := HX0.cs 3 _ rfl
  have b0 : W0.cell? ⟨w.heap.size, 0, none⟩ = some (.slice ao l.length c) := HX0.bx
  have HX : Hid (Bx l x ao c w.heap.size (w.heap.size + 1) W0) := HX0
  have HZ : Hid (Below W0.heap.size W0 W0) := Below.refl _ _
  clear hbw HX0 hk
  have HALL : Hid (∀ W (g : Nat), Below W0.heap.size W0 W → g < 18446744073709551616 → Calls Tryz.prog 87 #[.int .u64 (g : Int), .pointer (some ⟨w.heap.size, 0, none⟩), .pointer (some ⟨w.heap.size + 1, 0, none⟩)] W fun e w' => e = .returned (.bool (kAll l x.ks g)) ∧ w' = W) := fun W g hW hg => all87 l x ao c _ _ g W (HX.out.below hW) hg
  have HARE : Hid (∀ W go gc (gs : List Nat), Below W0.heap.size W0 W → GrA W go gc gs → Calls Tryz.prog 85 #[.slice go gs.length gc, .pointer (some ⟨w.heap.size, 0, none⟩), .pointer (some ⟨w.heap.size + 1, 0, none⟩)] W fun e w' => e = .returned (.bool (kAre l x.ks gs)) ∧ Below W.heap.size W w') := fun W go gc gs hW hg => are85 l x gs ao go c _ _ gc W (HX.out.below hW) hg
  apply seq_to
  · go_wp2_with fail
    exact At.mk
  apply seq_to
  · go_wp2_with fail
    exact At.mk
  refine cut_ret ?_
  apply seq_ret
  apply seq_to
  · go_wp2_with fail
    exact At.mk
  apply blk_ret
  apply seq_ret
  apply blk_ret
  apply seq_ret
  apply blk_ret
  apply seq_ret
  apply blk_ret
  apply seq_ret
  apply blk_ret
  apply seq_ret
  apply blk_ret
  apply seq_ret
  apply blk_ret
  apply seq_ret
  apply blk_ret
  apply seq_ret
  apply blk_ret
  apply seq_to
  · apply blk_catch
    apply seq_exit
    apply blk_pass (by decide)
    apply seq_exit
    apply blk_pass (by decide)
    apply seq_exit
    apply blk_pass (by decide)
    apply seq_exit
    apply blk_pass (by decide)
    apply seq_exit
    apply blk_pass (by decide)
    apply seq_exit
    apply blk_pass (by decide)
    apply seq_exit
    apply blk_pass (by decide)
    apply seq_exit
    apply blk_pass (by decide)
    apply seq_exit
    apply blk_pass (by decide)
    apply seq_exit
    apply blk_pass (by decide)
    go_wp2_with fail
    exact At.mk
  have hz0 : ((x.ks.length : Int) == 0) = true := by simp [HZL.out]
  go_wp2_with fail
  refine Rt.mk ?_
  go_ret
  exact ⟨rfl, HBW.out⟩
set_option maxRecDepth 100000 in
set_option maxHeartbeats 4000000 in
theorem kf_25_n (l : List Nd) (x : Nd) (ao : Option Addr) (c : Nat) (w : World) (hk : x.k = 25) (hl : NdA w ao c l) (hks : IsA w x.ka x.kc x.ks) (hi : Inn l x.ks) (hz : ¬ x.ks.length = 0) : Calls Tryz.prog 62 #[.slice ao l.length c, ndv x.k x.nm x.v (.slice x.ka x.ks.length x.kc) x.fr x.en] w fun r w' => r = .returned (.bool (kAre l x.ks [140667696185344])) ∧ Below w.heap.size w w' := by
  have HZL : Hid (¬ x.ks.length = 0) := hz
  clear hz
  have HX0 := bx_new l x ao c w hl hks hi
  rw [hk] at HX0 ⊢
  have hbw : Below w.heap.size w ((w.alloc (.cells #[.slice ao l.length c] 22)).alloc (.cells #[.int .i64 25, .string x.nm, .int .i64 x.v, .slice x.ka x.ks.length x.kc, .int .i64 x.fr, .int .i64 x.en] 53)) := (below_cells w _ _).alloc (by simp) _
  have HKS : Hid (IsA w x.ka x.kc x.ks ∧ Inn l x.ks) := ⟨hks, hi⟩
  unfold ndv
  clear hl hks hi
  go_enter Tryz.func62, Tryz.ntmps62
  apply seq_to
  · go_wp2_with fail
    exact At.mk
  obtain ⟨W0, hW0⟩ : ∃ W, W = ((w.alloc (.cells #[.slice ao l.length c] 22)).alloc (.cells #[.int .i64 25, .string x.nm, .int .i64 x.v, .slice x.ka x.ks.length x.kc, .int .i64 x.fr, .int .i64 x.en] 53)) := ⟨_, rfl⟩
  rw [← hW0] at HX0 hbw ⊢
  clear hW0
  have HBW : Hid (Below w.heap.size w W0) := hbw
  have a0 : W0.cell? ⟨w.heap.size + 1, 0, none⟩ = some (.int .i64 25) := by rw [← hk]; exact HX0.cs 0 _ rfl
  have a2 : W0.cell? ⟨w.heap.size + 1, 2, none⟩ = some (.int .i64 x.v) := HX0.cs 2 _ rfl
  have a3 : W0.cell? ⟨w.heap.size + 1, 3, none⟩ = some (.slice x.ka x.ks.length x.kc) := HX0.cs 3 _ rfl
  have b0 : W0.cell? ⟨w.heap.size, 0, none⟩ = some (.slice ao l.length c) := HX0.bx
  have HX : Hid (Bx l x ao c w.heap.size (w.heap.size + 1) W0) := HX0
  have HZ : Hid (Below W0.heap.size W0 W0) := Below.refl _ _
  clear hbw HX0 hk
  have HALL : Hid (∀ W (g : Nat), Below W0.heap.size W0 W → g < 18446744073709551616 → Calls Tryz.prog 87 #[.int .u64 (g : Int), .pointer (some ⟨w.heap.size, 0, none⟩), .pointer (some ⟨w.heap.size + 1, 0, none⟩)] W fun e w' => e = .returned (.bool (kAll l x.ks g)) ∧ w' = W) := fun W g hW hg => all87 l x ao c _ _ g W (HX.out.below hW) hg
  have HARE : Hid (∀ W go gc (gs : List Nat), Below W0.heap.size W0 W → GrA W go gc gs → Calls Tryz.prog 85 #[.slice go gs.length gc, .pointer (some ⟨w.heap.size, 0, none⟩), .pointer (some ⟨w.heap.size + 1, 0, none⟩)] W fun e w' => e = .returned (.bool (kAre l x.ks gs)) ∧ Below W.heap.size W w') := fun W go gc gs hW hg => are85 l x gs ao go c _ _ gc W (HX.out.below hW) hg
  apply seq_to
  · go_wp2_with fail
    exact At.mk
  apply seq_to
  · go_wp2_with fail
    exact At.mk
  refine cut_ret ?_
  apply seq_ret
  apply seq_to
  · go_wp2_with fail
    exact At.mk
  apply blk_ret
  apply seq_ret
  apply blk_ret
  apply seq_ret
  apply blk_ret
  apply seq_ret
  apply blk_ret
  apply seq_ret
  apply blk_ret
  apply seq_ret
  apply blk_ret
  apply seq_ret
  apply blk_ret
  apply seq_ret
  apply blk_ret
  have hz0 : ((x.ks.length : Int) == 0) = false := by rw [← Bool.not_eq_true]; intro h; have := HZL.out; simp at h; rw [h] at this; exact this rfl
  apply seq_to
  · apply blk_norm
    apply seq_to
    · apply blk_catch
      apply seq_exit
      apply blk_pass (by decide)
      apply seq_exit
      apply blk_pass (by decide)
      apply seq_exit
      apply blk_pass (by decide)
      apply seq_exit
      apply blk_pass (by decide)
      apply seq_exit
      apply blk_pass (by decide)
      apply seq_exit
      apply blk_pass (by decide)
      apply seq_exit
      apply blk_pass (by decide)
      apply seq_exit
      apply blk_pass (by decide)
      apply seq_exit
      apply blk_pass (by decide)
      apply seq_exit
      apply blk_pass (by decide)
      go_wp2_with fail
      exact At.mk
    go_wp2_with fail
    exact At.mk
  apply seq_ret
  go_wp2_with fail
  refine (HARE.out _ _ _ [140667696185344] (HZ.out.alloc HZ.out.size _) (gr_1 _ 140667696185344 _ (by decide))).mono ?_
  rintro e w1 ⟨rfl, hb⟩
  have HB1 : Hid (Below w.heap.size w w1) := (HBW.out.alloc HBW.out.size _).trans (hb.mono (by have := HBW.out.size; simp; omega))
  clear hb
  go_wp2
  refine Rt.mk ?_
  go_ret
  exact ⟨rfl, HB1.out⟩
set_option maxRecDepth 100000 in
set_option maxHeartbeats 4000000 in
theorem kf_37_e (l : List Nd) (x : Nd) (ao : Option Addr) (c : Nat) (w : World) (hk : x.k = 37) (hl : NdA w ao c l) (hks : IsA w x.ka x.kc x.ks) (hi : Inn l x.ks) (hz : x.ks.length = 0) : Calls Tryz.prog 62 #[.slice ao l.length c, ndv x.k x.nm x.v (.slice x.ka x.ks.length x.kc) x.fr x.en] w fun r w' => r = .returned (.bool (true)) ∧ Below w.heap.size w w' := by
  have HZL : Hid (x.ks.length = 0) := hz
  clear hz
  have HX0 := bx_new l x ao c w hl hks hi
  rw [hk] at HX0 ⊢
  have hbw : Below w.heap.size w ((w.alloc (.cells #[.slice ao l.length c] 22)).alloc (.cells #[.int .i64 37, .string x.nm, .int .i64 x.v, .slice x.ka x.ks.length x.kc, .int .i64 x.fr, .int .i64 x.en] 53)) := (below_cells w _ _).alloc (by simp) _
  have HKS : Hid (IsA w x.ka x.kc x.ks ∧ Inn l x.ks) := ⟨hks, hi⟩
  unfold ndv
  clear hl hks hi
  go_enter Tryz.func62, Tryz.ntmps62
  apply seq_to
  · go_wp2_with fail
    exact At.mk
  obtain ⟨W0, hW0⟩ : ∃ W, W = ((w.alloc (.cells #[.slice ao l.length c] 22)).alloc (.cells #[.int .i64 37, .string x.nm, .int .i64 x.v, .slice x.ka x.ks.length x.kc, .int .i64 x.fr, .int .i64 x.en] 53)) := ⟨_, rfl⟩
  rw [← hW0] at HX0 hbw ⊢
  clear hW0
  have HBW : Hid (Below w.heap.size w W0) := hbw
  have a0 : W0.cell? ⟨w.heap.size + 1, 0, none⟩ = some (.int .i64 37) := by rw [← hk]; exact HX0.cs 0 _ rfl
  have a2 : W0.cell? ⟨w.heap.size + 1, 2, none⟩ = some (.int .i64 x.v) := HX0.cs 2 _ rfl
  have a3 : W0.cell? ⟨w.heap.size + 1, 3, none⟩ = some (.slice x.ka x.ks.length x.kc) := HX0.cs 3 _ rfl
  have b0 : W0.cell? ⟨w.heap.size, 0, none⟩ = some (.slice ao l.length c) := HX0.bx
  have HX : Hid (Bx l x ao c w.heap.size (w.heap.size + 1) W0) := HX0
  have HZ : Hid (Below W0.heap.size W0 W0) := Below.refl _ _
  clear hbw HX0 hk
  have HALL : Hid (∀ W (g : Nat), Below W0.heap.size W0 W → g < 18446744073709551616 → Calls Tryz.prog 87 #[.int .u64 (g : Int), .pointer (some ⟨w.heap.size, 0, none⟩), .pointer (some ⟨w.heap.size + 1, 0, none⟩)] W fun e w' => e = .returned (.bool (kAll l x.ks g)) ∧ w' = W) := fun W g hW hg => all87 l x ao c _ _ g W (HX.out.below hW) hg
  have HARE : Hid (∀ W go gc (gs : List Nat), Below W0.heap.size W0 W → GrA W go gc gs → Calls Tryz.prog 85 #[.slice go gs.length gc, .pointer (some ⟨w.heap.size, 0, none⟩), .pointer (some ⟨w.heap.size + 1, 0, none⟩)] W fun e w' => e = .returned (.bool (kAre l x.ks gs)) ∧ Below W.heap.size W w') := fun W go gc gs hW hg => are85 l x gs ao go c _ _ gc W (HX.out.below hW) hg
  apply seq_to
  · go_wp2_with fail
    exact At.mk
  apply seq_to
  · go_wp2_with fail
    exact At.mk
  refine cut_ret ?_
  apply seq_ret
  apply seq_to
  · go_wp2_with fail
    exact At.mk
  apply blk_ret
  apply seq_ret
  apply blk_ret
  apply seq_ret
  apply blk_ret
  apply seq_ret
  apply blk_ret
  apply seq_ret
  apply blk_ret
  apply seq_ret
  apply blk_ret
  apply seq_ret
  apply blk_ret
  apply seq_ret
  apply blk_ret
  apply seq_ret
  apply blk_ret
  apply seq_to
  · apply blk_catch
    apply seq_exit
    apply blk_pass (by decide)
    apply seq_exit
    apply blk_pass (by decide)
    apply seq_exit
    apply blk_pass (by decide)
    apply seq_exit
    apply blk_pass (by decide)
    apply seq_exit
    apply blk_pass (by decide)
    apply seq_exit
    apply blk_pass (by decide)
    apply seq_exit
    apply blk_pass (by decide)
    apply seq_exit
    apply blk_pass (by decide)
    apply seq_exit
    apply blk_pass (by decide)
    apply seq_exit
    apply blk_pass (by decide)
    go_wp2_with fail
    exact At.mk
  have hz0 : ((x.ks.length : Int) == 0) = true := by simp [HZL.out]
  go_wp2_with fail
  refine Rt.mk ?_
  go_ret
  exact ⟨rfl, HBW.out⟩
set_option maxRecDepth 100000 in
set_option maxHeartbeats 4000000 in
theorem kf_37_n (l : List Nd) (x : Nd) (ao : Option Addr) (c : Nat) (w : World) (hk : x.k = 37) (hl : NdA w ao c l) (hks : IsA w x.ka x.kc x.ks) (hi : Inn l x.ks) (hz : ¬ x.ks.length = 0) : Calls Tryz.prog 62 #[.slice ao l.length c, ndv x.k x.nm x.v (.slice x.ka x.ks.length x.kc) x.fr x.en] w fun r w' => r = .returned (.bool (kAre l x.ks [140667696185344])) ∧ Below w.heap.size w w' := by
  have HZL : Hid (¬ x.ks.length = 0) := hz
  clear hz
  have HX0 := bx_new l x ao c w hl hks hi
  rw [hk] at HX0 ⊢
  have hbw : Below w.heap.size w ((w.alloc (.cells #[.slice ao l.length c] 22)).alloc (.cells #[.int .i64 37, .string x.nm, .int .i64 x.v, .slice x.ka x.ks.length x.kc, .int .i64 x.fr, .int .i64 x.en] 53)) := (below_cells w _ _).alloc (by simp) _
  have HKS : Hid (IsA w x.ka x.kc x.ks ∧ Inn l x.ks) := ⟨hks, hi⟩
  unfold ndv
  clear hl hks hi
  go_enter Tryz.func62, Tryz.ntmps62
  apply seq_to
  · go_wp2_with fail
    exact At.mk
  obtain ⟨W0, hW0⟩ : ∃ W, W = ((w.alloc (.cells #[.slice ao l.length c] 22)).alloc (.cells #[.int .i64 37, .string x.nm, .int .i64 x.v, .slice x.ka x.ks.length x.kc, .int .i64 x.fr, .int .i64 x.en] 53)) := ⟨_, rfl⟩
  rw [← hW0] at HX0 hbw ⊢
  clear hW0
  have HBW : Hid (Below w.heap.size w W0) := hbw
  have a0 : W0.cell? ⟨w.heap.size + 1, 0, none⟩ = some (.int .i64 37) := by rw [← hk]; exact HX0.cs 0 _ rfl
  have a2 : W0.cell? ⟨w.heap.size + 1, 2, none⟩ = some (.int .i64 x.v) := HX0.cs 2 _ rfl
  have a3 : W0.cell? ⟨w.heap.size + 1, 3, none⟩ = some (.slice x.ka x.ks.length x.kc) := HX0.cs 3 _ rfl
  have b0 : W0.cell? ⟨w.heap.size, 0, none⟩ = some (.slice ao l.length c) := HX0.bx
  have HX : Hid (Bx l x ao c w.heap.size (w.heap.size + 1) W0) := HX0
  have HZ : Hid (Below W0.heap.size W0 W0) := Below.refl _ _
  clear hbw HX0 hk
  have HALL : Hid (∀ W (g : Nat), Below W0.heap.size W0 W → g < 18446744073709551616 → Calls Tryz.prog 87 #[.int .u64 (g : Int), .pointer (some ⟨w.heap.size, 0, none⟩), .pointer (some ⟨w.heap.size + 1, 0, none⟩)] W fun e w' => e = .returned (.bool (kAll l x.ks g)) ∧ w' = W) := fun W g hW hg => all87 l x ao c _ _ g W (HX.out.below hW) hg
  have HARE : Hid (∀ W go gc (gs : List Nat), Below W0.heap.size W0 W → GrA W go gc gs → Calls Tryz.prog 85 #[.slice go gs.length gc, .pointer (some ⟨w.heap.size, 0, none⟩), .pointer (some ⟨w.heap.size + 1, 0, none⟩)] W fun e w' => e = .returned (.bool (kAre l x.ks gs)) ∧ Below W.heap.size W w') := fun W go gc gs hW hg => are85 l x gs ao go c _ _ gc W (HX.out.below hW) hg
  apply seq_to
  · go_wp2_with fail
    exact At.mk
  apply seq_to
  · go_wp2_with fail
    exact At.mk
  refine cut_ret ?_
  apply seq_ret
  apply seq_to
  · go_wp2_with fail
    exact At.mk
  apply blk_ret
  apply seq_ret
  apply blk_ret
  apply seq_ret
  apply blk_ret
  apply seq_ret
  apply blk_ret
  apply seq_ret
  apply blk_ret
  apply seq_ret
  apply blk_ret
  apply seq_ret
  apply blk_ret
  apply seq_ret
  apply blk_ret
  have hz0 : ((x.ks.length : Int) == 0) = false := by rw [← Bool.not_eq_true]; intro h; have := HZL.out; simp at h; rw [h] at this; exact this rfl
  apply seq_to
  · apply blk_norm
    apply seq_to
    · apply blk_catch
      apply seq_exit
      apply blk_pass (by decide)
      apply seq_exit
      apply blk_pass (by decide)
      apply seq_exit
      apply blk_pass (by decide)
      apply seq_exit
      apply blk_pass (by decide)
      apply seq_exit
      apply blk_pass (by decide)
      apply seq_exit
      apply blk_pass (by decide)
      apply seq_exit
      apply blk_pass (by decide)
      apply seq_exit
      apply blk_pass (by decide)
      apply seq_exit
      apply blk_pass (by decide)
      apply seq_exit
      apply blk_pass (by decide)
      go_wp2_with fail
      exact At.mk
    go_wp2_with fail
    exact At.mk
  apply seq_ret
  go_wp2_with fail
  refine (HARE.out _ _ _ [140667696185344] (HZ.out.alloc HZ.out.size _) (gr_1 _ 140667696185344 _ (by decide))).mono ?_
  rintro e w1 ⟨rfl, hb⟩
  have HB1 : Hid (Below w.heap.size w w1) := (HBW.out.alloc HBW.out.size _).trans (hb.mono (by have := HBW.out.size; simp; omega))
  clear hb
  go_wp2
  refine Rt.mk ?_
  go_ret
  exact ⟨rfl, HB1.out⟩
set_option maxRecDepth 100000 in
set_option maxHeartbeats 4000000 in
theorem kf_54_e (l : List Nd) (x : Nd) (ao : Option Addr) (c : Nat) (w : World) (hk : x.k = 54) (hl : NdA w ao c l) (hks : IsA w x.ka x.kc x.ks) (hi : Inn l x.ks) (hz : x.ks.length = 0) : Calls Tryz.prog 62 #[.slice ao l.length c, ndv x.k x.nm x.v (.slice x.ka x.ks.length x.kc) x.fr x.en] w fun r w' => r = .returned (.bool (true)) ∧ Below w.heap.size w w' := by
  have HZL : Hid (x.ks.length = 0) := hz
  clear hz
  have HX0 := bx_new l x ao c w hl hks hi
  rw [hk] at HX0 ⊢
  have hbw : Below w.heap.size w ((w.alloc (.cells #[.slice ao l.length c] 22)).alloc (.cells #[.int .i64 54, .string x.nm, .int .i64 x.v, .slice x.ka x.ks.length x.kc, .int .i64 x.fr, .int .i64 x.en] 53)) := (below_cells w _ _).alloc (by simp) _
  have HKS : Hid (IsA w x.ka x.kc x.ks ∧ Inn l x.ks) := ⟨hks, hi⟩
  unfold ndv
  clear hl hks hi
  go_enter Tryz.func62, Tryz.ntmps62
  apply seq_to
  · go_wp2_with fail
    exact At.mk
  obtain ⟨W0, hW0⟩ : ∃ W, W = ((w.alloc (.cells #[.slice ao l.length c] 22)).alloc (.cells #[.int .i64 54, .string x.nm, .int .i64 x.v, .slice x.ka x.ks.length x.kc, .int .i64 x.fr, .int .i64 x.en] 53)) := ⟨_, rfl⟩
  rw [← hW0] at HX0 hbw ⊢
  clear hW0
  have HBW : Hid (Below w.heap.size w W0) := hbw
  have a0 : W0.cell? ⟨w.heap.size + 1, 0, none⟩ = some (.int .i64 54) := by rw [← hk]; exact HX0.cs 0 _ rfl
  have a2 : W0.cell? ⟨w.heap.size + 1, 2, none⟩ = some (.int .i64 x.v) := HX0.cs 2 _ rfl
  have a3 : W0.cell? ⟨w.heap.size + 1, 3, none⟩ = some (.slice x.ka x.ks.length x.kc) := HX0.cs 3 _ rfl
  have b0 : W0.cell? ⟨w.heap.size, 0, none⟩ = some (.slice ao l.length c) := HX0.bx
  have HX : Hid (Bx l x ao c w.heap.size (w.heap.size + 1) W0) := HX0
  have HZ : Hid (Below W0.heap.size W0 W0) := Below.refl _ _
  clear hbw HX0 hk
  have HALL : Hid (∀ W (g : Nat), Below W0.heap.size W0 W → g < 18446744073709551616 → Calls Tryz.prog 87 #[.int .u64 (g : Int), .pointer (some ⟨w.heap.size, 0, none⟩), .pointer (some ⟨w.heap.size + 1, 0, none⟩)] W fun e w' => e = .returned (.bool (kAll l x.ks g)) ∧ w' = W) := fun W g hW hg => all87 l x ao c _ _ g W (HX.out.below hW) hg
  have HARE : Hid (∀ W go gc (gs : List Nat), Below W0.heap.size W0 W → GrA W go gc gs → Calls Tryz.prog 85 #[.slice go gs.length gc, .pointer (some ⟨w.heap.size, 0, none⟩), .pointer (some ⟨w.heap.size + 1, 0, none⟩)] W fun e w' => e = .returned (.bool (kAre l x.ks gs)) ∧ Below W.heap.size W w') := fun W go gc gs hW hg => are85 l x gs ao go c _ _ gc W (HX.out.below hW) hg
  apply seq_to
  · go_wp2_with fail
    exact At.mk
  apply seq_to
  · go_wp2_with fail
    exact At.mk
  refine cut_ret ?_
  apply seq_ret
  apply seq_to
  · go_wp2_with fail
    exact At.mk
  apply blk_ret
  apply seq_ret
  apply blk_ret
  apply seq_to
  · apply blk_catch
    apply seq_exit
    apply blk_pass (by decide)
    apply seq_exit
    apply blk_pass (by decide)
    apply seq_exit
    apply blk_pass (by decide)
    apply seq_exit
    apply blk_pass (by decide)
    apply seq_exit
    apply blk_pass (by decide)
    apply seq_exit
    apply blk_pass (by decide)
    apply seq_exit
    apply blk_pass (by decide)
    apply seq_exit
    apply blk_pass (by decide)
    apply seq_exit
    apply blk_pass (by decide)
    apply seq_exit
    apply blk_pass (by decide)
    apply seq_exit
    apply blk_pass (by decide)
    apply seq_exit
    apply blk_pass (by decide)
    apply seq_exit
    apply blk_pass (by decide)
    apply seq_exit
    apply blk_pass (by decide)
    apply seq_exit
    apply blk_pass (by decide)
    apply seq_exit
    apply blk_pass (by decide)
    apply seq_exit
    apply blk_pass (by decide)
    go_wp2_with fail
    exact At.mk
  apply seq_ret
  have hz0 : ((x.ks.length : Int) == 0) = true := by simp [HZL.out]
  go_wp2_with fail
  refine Rt.mk ?_
  go_ret
  exact ⟨rfl, HBW.out⟩
set_option maxRecDepth 100000 in
set_option maxHeartbeats 4000000 in
theorem kf_54_n (l : List Nd) (x : Nd) (ao : Option Addr) (c : Nat) (w : World) (hk : x.k = 54) (hl : NdA w ao c l) (hks : IsA w x.ka x.kc x.ks) (hi : Inn l x.ks) (hz : ¬ x.ks.length = 0) : Calls Tryz.prog 62 #[.slice ao l.length c, ndv x.k x.nm x.v (.slice x.ka x.ks.length x.kc) x.fr x.en] w fun r w' => r = .returned (.bool (kAre l x.ks [34902897112121344])) ∧ Below w.heap.size w w' := by
  have HZL : Hid (¬ x.ks.length = 0) := hz
  clear hz
  have HX0 := bx_new l x ao c w hl hks hi
  rw [hk] at HX0 ⊢
  have hbw : Below w.heap.size w ((w.alloc (.cells #[.slice ao l.length c] 22)).alloc (.cells #[.int .i64 54, .string x.nm, .int .i64 x.v, .slice x.ka x.ks.length x.kc, .int .i64 x.fr, .int .i64 x.en] 53)) := (below_cells w _ _).alloc (by simp) _
  have HKS : Hid (IsA w x.ka x.kc x.ks ∧ Inn l x.ks) := ⟨hks, hi⟩
  unfold ndv
  clear hl hks hi
  go_enter Tryz.func62, Tryz.ntmps62
  apply seq_to
  · go_wp2_with fail
    exact At.mk
  obtain ⟨W0, hW0⟩ : ∃ W, W = ((w.alloc (.cells #[.slice ao l.length c] 22)).alloc (.cells #[.int .i64 54, .string x.nm, .int .i64 x.v, .slice x.ka x.ks.length x.kc, .int .i64 x.fr, .int .i64 x.en] 53)) := ⟨_, rfl⟩
  rw [← hW0] at HX0 hbw ⊢
  clear hW0
  have HBW : Hid (Below w.heap.size w W0) := hbw
  have a0 : W0.cell? ⟨w.heap.size + 1, 0, none⟩ = some (.int .i64 54) := by rw [← hk]; exact HX0.cs 0 _ rfl
  have a2 : W0.cell? ⟨w.heap.size + 1, 2, none⟩ = some (.int .i64 x.v) := HX0.cs 2 _ rfl
  have a3 : W0.cell? ⟨w.heap.size + 1, 3, none⟩ = some (.slice x.ka x.ks.length x.kc) := HX0.cs 3 _ rfl
  have b0 : W0.cell? ⟨w.heap.size, 0, none⟩ = some (.slice ao l.length c) := HX0.bx
  have HX : Hid (Bx l x ao c w.heap.size (w.heap.size + 1) W0) := HX0
  have HZ : Hid (Below W0.heap.size W0 W0) := Below.refl _ _
  clear hbw HX0 hk
  have HALL : Hid (∀ W (g : Nat), Below W0.heap.size W0 W → g < 18446744073709551616 → Calls Tryz.prog 87 #[.int .u64 (g : Int), .pointer (some ⟨w.heap.size, 0, none⟩), .pointer (some ⟨w.heap.size + 1, 0, none⟩)] W fun e w' => e = .returned (.bool (kAll l x.ks g)) ∧ w' = W) := fun W g hW hg => all87 l x ao c _ _ g W (HX.out.below hW) hg
  have HARE : Hid (∀ W go gc (gs : List Nat), Below W0.heap.size W0 W → GrA W go gc gs → Calls Tryz.prog 85 #[.slice go gs.length gc, .pointer (some ⟨w.heap.size, 0, none⟩), .pointer (some ⟨w.heap.size + 1, 0, none⟩)] W fun e w' => e = .returned (.bool (kAre l x.ks gs)) ∧ Below W.heap.size W w') := fun W go gc gs hW hg => are85 l x gs ao go c _ _ gc W (HX.out.below hW) hg
  apply seq_to
  · go_wp2_with fail
    exact At.mk
  apply seq_to
  · go_wp2_with fail
    exact At.mk
  refine cut_ret ?_
  apply seq_ret
  apply seq_to
  · go_wp2_with fail
    exact At.mk
  apply blk_ret
  apply seq_ret
  apply blk_ret
  apply seq_to
  · apply blk_catch
    apply seq_exit
    apply blk_pass (by decide)
    apply seq_exit
    apply blk_pass (by decide)
    apply seq_exit
    apply blk_pass (by decide)
    apply seq_exit
    apply blk_pass (by decide)
    apply seq_exit
    apply blk_pass (by decide)
    apply seq_exit
    apply blk_pass (by decide)
    apply seq_exit
    apply blk_pass (by decide)
    apply seq_exit
    apply blk_pass (by decide)
    apply seq_exit
    apply blk_pass (by decide)
    apply seq_exit
    apply blk_pass (by decide)
    apply seq_exit
    apply blk_pass (by decide)
    apply seq_exit
    apply blk_pass (by decide)
    apply seq_exit
    apply blk_pass (by decide)
    apply seq_exit
    apply blk_pass (by decide)
    apply seq_exit
    apply blk_pass (by decide)
    apply seq_exit
    apply blk_pass (by decide)
    apply seq_exit
    apply blk_pass (by decide)
    go_wp2_with fail
    exact At.mk
  have hz0 : ((x.ks.length : Int) == 0) = false := by rw [← Bool.not_eq_true]; intro h; have := HZL.out; simp at h; rw [h] at this; exact this rfl
  apply seq_ret
  go_wp2_with fail
  refine (HARE.out _ _ _ [34902897112121344] (HZ.out.alloc HZ.out.size _) (gr_1 _ 34902897112121344 _ (by decide))).mono ?_
  rintro e w1 ⟨rfl, hb⟩
  have HB1 : Hid (Below w.heap.size w w1) := (HBW.out.alloc HBW.out.size _).trans (hb.mono (by have := HBW.out.size; simp; omega))
  clear hb
  go_wp2
  refine Rt.mk ?_
  go_ret
  exact ⟨rfl, HB1.out⟩
set_option maxRecDepth 100000 in
set_option maxHeartbeats 4000000 in
theorem kf_21 (l : List Nd) (x : Nd) (ao : Option Addr) (c : Nat) (w : World) (hk : x.k = 21) (hl : NdA w ao c l) (hks : IsA w x.ka x.kc x.ks) (hi : Inn l x.ks) : Calls Tryz.prog 62 #[.slice ao l.length c, ndv x.k x.nm x.v (.slice x.ka x.ks.length x.kc) x.fr x.en] w fun r w' => r = .returned (.bool (kAre l x.ks [140667696185344] || kAre l x.ks [130048, 140667696185344])) ∧ Below w.heap.size w w' := by
  have HX0 := bx_new l x ao c w hl hks hi
  rw [hk] at HX0 ⊢
  have hbw : Below w.heap.size w ((w.alloc (.cells #[.slice ao l.length c] 22)).alloc (.cells #[.int .i64 21, .string x.nm, .int .i64 x.v, .slice x.ka x.ks.length x.kc, .int .i64 x.fr, .int .i64 x.en] 53)) := (below_cells w _ _).alloc (by simp) _
  have HKS : Hid (IsA w x.ka x.kc x.ks ∧ Inn l x.ks) := ⟨hks, hi⟩
  unfold ndv
  clear hl hks hi
  go_enter Tryz.func62, Tryz.ntmps62
  apply seq_to
  · go_wp2_with fail
    exact At.mk
  obtain ⟨W0, hW0⟩ : ∃ W, W = ((w.alloc (.cells #[.slice ao l.length c] 22)).alloc (.cells #[.int .i64 21, .string x.nm, .int .i64 x.v, .slice x.ka x.ks.length x.kc, .int .i64 x.fr, .int .i64 x.en] 53)) := ⟨_, rfl⟩
  rw [← hW0] at HX0 hbw ⊢
  clear hW0
  have HBW : Hid (Below w.heap.size w W0) := hbw
  have a0 : W0.cell? ⟨w.heap.size + 1, 0, none⟩ = some (.int .i64 21) := by rw [← hk]; exact HX0.cs 0 _ rfl
  have a2 : W0.cell? ⟨w.heap.size + 1, 2, none⟩ = some (.int .i64 x.v) := HX0.cs 2 _ rfl
  have a3 : W0.cell? ⟨w.heap.size + 1, 3, none⟩ = some (.slice x.ka x.ks.length x.kc) := HX0.cs 3 _ rfl
  have b0 : W0.cell? ⟨w.heap.size, 0, none⟩ = some (.slice ao l.length c) := HX0.bx
  have HX : Hid (Bx l x ao c w.heap.size (w.heap.size + 1) W0) := HX0
  have HZ : Hid (Below W0.heap.size W0 W0) := Below.refl _ _
  clear hbw HX0 hk
  have HALL : Hid (∀ W (g : Nat), Below W0.heap.size W0 W → g < 18446744073709551616 → Calls Tryz.prog 87 #[.int .u64 (g : Int), .pointer (some ⟨w.heap.size, 0, none⟩), .pointer (some ⟨w.heap.size + 1, 0, none⟩)] W fun e w' => e = .returned (.bool (kAll l x.ks g)) ∧ w' = W) := fun W g hW hg => all87 l x ao c _ _ g W (HX.out.below hW) hg
  have HARE : Hid (∀ W go gc (gs : List Nat), Below W0.heap.size W0 W → GrA W go gc gs → Calls Tryz.prog 85 #[.slice go gs.length gc, .pointer (some ⟨w.heap.size, 0, none⟩), .pointer (some ⟨w.heap.size + 1, 0, none⟩)] W fun e w' => e = .returned (.bool (kAre l x.ks gs)) ∧ Below W.heap.size W w') := fun W go gc gs hW hg => are85 l x gs ao go c _ _ gc W (HX.out.below hW) hg
  apply seq_to
  · go_wp2_with fail
    exact At.mk
  apply seq_to
  · go_wp2_with fail
    exact At.mk
  refine cut_ret ?_
  apply seq_ret
  apply seq_to
  · go_wp2_with fail
    exact At.mk
  apply blk_ret
  apply seq_ret
  apply blk_ret
  apply seq_ret
  apply blk_ret
  apply seq_ret
  apply blk_ret
  apply seq_ret
  apply blk_ret
  apply seq_ret
  apply blk_ret
  apply seq_ret
  apply blk_ret
  apply seq_ret
  apply blk_ret
  apply seq_ret
  apply blk_ret
  apply seq_ret
  apply blk_ret
  apply seq_to
  · apply blk_catch
    apply seq_exit
    apply blk_pass (by decide)
    apply seq_exit
    apply blk_pass (by decide)
    apply seq_exit
    apply blk_pass (by decide)
    apply seq_exit
    apply blk_pass (by decide)
    apply seq_exit
    apply blk_pass (by decide)
    apply seq_exit
    apply blk_pass (by decide)
    apply seq_exit
    apply blk_pass (by decide)
    apply seq_exit
    apply blk_pass (by decide)
    apply seq_exit
    apply blk_pass (by decide)
    go_wp2_with fail
    exact At.mk
  apply seq_ret
  go_wp2_with fail
  refine (HARE.out _ _ _ [140667696185344] (HZ.out.alloc HZ.out.size _) (gr_1 _ 140667696185344 _ (by decide))).mono ?_
  rintro e w1 ⟨rfl, hb⟩
  have HB0 : Hid (Below W0.heap.size W0 w1) := (HZ.out.alloc HZ.out.size _).trans (hb.mono (by simp))
  have HB1 : Hid (Below w.heap.size w w1) := HBW.out.trans (HB0.out.mono HBW.out.size)
  clear hb
  cases h1 : kAre l x.ks [140667696185344]
  · go_wp2_with fail
    refine (HARE.out _ _ _ [130048, 140667696185344] (HB0.out.alloc HB0.out.size _) (gr_2 _ 130048 140667696185344 _ (by decide) (by decide))).mono ?_
    rintro e w2 ⟨rfl, hb⟩
    have HB2 : Hid (Below w.heap.size w w2) := (HB1.out.alloc HB1.out.size _).trans (hb.mono (by have := HB1.out.size; simp; omega))
    clear hb
    go_wp2
    refine Rt.mk ?_
    go_ret
    exact ⟨ret_bool (by rw [h1, Bool.false_or]), HB2.out⟩
  · go_wp2
    refine Rt.mk ?_
    go_ret
    exact ⟨ret_bool (by rw [h1, Bool.true_or]), HB1.out⟩
set_option maxRecDepth 100000 in
set_option maxHeartbeats 4000000 in
theorem kf_45 (l : List Nd) (x : Nd) (ao : Option Addr) (c : Nat) (w : World) (hk : x.k = 45) (hl : NdA w ao c l) (hks : IsA w x.ka x.kc x.ks) (hi : Inn l x.ks) : Calls Tryz.prog 62 #[.slice ao l.length c, ndv x.k x.nm x.v (.slice x.ka x.ks.length x.kc) x.fr x.en] w fun r w' => r = .returned (.bool (kAre l x.ks [140667696185344, 1048576] || kAre l x.ks [140667696185344, 1048576, 35184373137408])) ∧ Below w.heap.size w w' := by
  have HX0 := bx_new l x ao c w hl hks hi
  rw [hk] at HX0 ⊢
  have hbw : Below w.heap.size w ((w.alloc (.cells #[.slice ao l.length c] 22)).alloc (.cells #[.int .i64 45, .string x.nm, .int .i64 x.v, .slice x.ka x.ks.length x.kc, .int .i64 x.fr, .int .i64 x.en] 53)) := (below_cells w _ _).alloc (by simp) _
  have HKS : Hid (IsA w x.ka x.kc x.ks ∧ Inn l x.ks) := ⟨hks, hi⟩
  unfold ndv
  clear hl hks hi
  go_enter Tryz.func62, Tryz.ntmps62
  apply seq_to
  · go_wp2_with fail
    exact At.mk
  obtain ⟨W0, hW0⟩ : ∃ W, W = ((w.alloc (.cells #[.slice ao l.length c] 22)).alloc (.cells #[.int .i64 45, .string x.nm, .int .i64 x.v, .slice x.ka x.ks.length x.kc, .int .i64 x.fr, .int .i64 x.en] 53)) := ⟨_, rfl⟩
  rw [← hW0] at HX0 hbw ⊢
  clear hW0
  have HBW : Hid (Below w.heap.size w W0) := hbw
  have a0 : W0.cell? ⟨w.heap.size + 1, 0, none⟩ = some (.int .i64 45) := by rw [← hk]; exact HX0.cs 0 _ rfl
  have a2 : W0.cell? ⟨w.heap.size + 1, 2, none⟩ = some (.int .i64 x.v) := HX0.cs 2 _ rfl
  have a3 : W0.cell? ⟨w.heap.size + 1, 3, none⟩ = some (.slice x.ka x.ks.length x.kc) := HX0.cs 3 _ rfl
  have b0 : W0.cell? ⟨w.heap.size, 0, none⟩ = some (.slice ao l.length c) := HX0.bx
  have HX : Hid (Bx l x ao c w.heap.size (w.heap.size + 1) W0) := HX0
  have HZ : Hid (Below W0.heap.size W0 W0) := Below.refl _ _
  clear hbw HX0 hk
  have HALL : Hid (∀ W (g : Nat), Below W0.heap.size W0 W → g < 18446744073709551616 → Calls Tryz.prog 87 #[.int .u64 (g : Int), .pointer (some ⟨w.heap.size, 0, none⟩), .pointer (some ⟨w.heap.size + 1, 0, none⟩)] W fun e w' => e = .returned (.bool (kAll l x.ks g)) ∧ w' = W) := fun W g hW hg => all87 l x ao c _ _ g W (HX.out.below hW) hg
  have HARE : Hid (∀ W go gc (gs : List Nat), Below W0.heap.size W0 W → GrA W go gc gs → Calls Tryz.prog 85 #[.slice go gs.length gc, .pointer (some ⟨w.heap.size, 0, none⟩), .pointer (some ⟨w.heap.size + 1, 0, none⟩)] W fun e w' => e = .returned (.bool (kAre l x.ks gs)) ∧ Below W.heap.size W w') := fun W go gc gs hW hg => are85 l x gs ao go c _ _ gc W (HX.out.below hW) hg
  apply seq_to
  · go_wp2_with fail
    exact At.mk
  apply seq_to
  · go_wp2_with fail
    exact At.mk
  refine cut_ret ?_
  apply seq_ret
  apply seq_to
  · go_wp2_with fail
    exact At.mk
  apply blk_ret
  apply seq_ret
  apply blk_ret
  apply seq_ret
  apply blk_ret
  apply seq_ret
  apply blk_ret
  apply seq_ret
  apply blk_ret
  apply seq_to
  · apply blk_catch
    apply seq_exit
    apply blk_pass (by decide)
    apply seq_exit
    apply blk_pass (by decide)
    apply seq_exit
    apply blk_pass (by decide)
    apply seq_exit
    apply blk_pass (by decide)
    apply seq_exit
    apply blk_pass (by decide)
    apply seq_exit
    apply blk_pass (by decide)
    apply seq_exit
    apply blk_pass (by decide)
    apply seq_exit
    apply blk_pass (by decide)
    apply seq_exit
    apply blk_pass (by decide)
    apply seq_exit
    apply blk_pass (by decide)
    apply seq_exit
    apply blk_pass (by decide)
    apply seq_exit
    apply blk_pass (by decide)
    apply seq_exit
    apply blk_pass (by decide)
    apply seq_exit
    apply blk_pass (by decide)
    go_wp2_with fail
    exact At.mk
  apply seq_ret
  go_wp2_with fail
  refine (HARE.out _ _ _ [140667696185344, 1048576] (HZ.out.alloc HZ.out.size _) (gr_2 _ 140667696185344 1048576 _ (by decide) (by decide))).mono ?_
  rintro e w1 ⟨rfl, hb⟩
  have HB0 : Hid (Below W0.heap.size W0 w1) := (HZ.out.alloc HZ.out.size _).trans (hb.mono (by simp))
  have HB1 : Hid (Below w.heap.size w w1) := HBW.out.trans (HB0.out.mono HBW.out.size)
  clear hb
  cases h1 : kAre l x.ks [140667696185344, 1048576]
  · go_wp2_with fail
    refine (HARE.out _ _ _ [140667696185344, 1048576, 35184373137408] (HB0.out.alloc HB0.out.size _) (gr_3 _ 140667696185344 1048576 35184373137408 _ (by decide) (by decide) (by decide))).mono ?_
    rintro e w2 ⟨rfl, hb⟩
    have HB2 : Hid (Below w.heap.size w w2) := (HB1.out.alloc HB1.out.size _).trans (hb.mono (by have := HB1.out.size; simp; omega))
    clear hb
    go_wp2
    refine Rt.mk ?_
    go_ret
    exact ⟨ret_bool (by rw [h1, Bool.false_or]), HB2.out⟩
  · go_wp2
    refine Rt.mk ?_
    go_ret
    exact ⟨ret_bool (by rw [h1, Bool.true_or]), HB1.out⟩
end Go.Proofs.YtkkmeogehapjoaaGreatDoor
