/- A node's kids: a match. -/
import Derived.Test.YtkkmeogehapjoaaGreatDoorV1
namespace Go.Proofs.YtkkmeogehapjoaaGreatDoor
open Go.RowKit Go.Shelf
set_option maxRecDepth 100000 in
set_option maxHeartbeats 4000000 in
theorem kf_46_B (l : List Nd) (x : Nd) (ao : Option Addr) (c : Nat) (w : World) (hk : x.k = 46) (hl : NdA w ao c l) (hks : IsA w x.ka x.kc x.ks) (hi : Inn l x.ks) (hh : ¬ x.ks.length = 0 ∧ kAre l (x.ks.take 1) [140667696185344] = false) : Calls Tryz.prog 62 #[.slice ao l.length c, ndv x.k x.nm x.v (.slice x.ka x.ks.length x.kc) x.fr x.en] w fun r w' => r = .returned (.bool (false)) ∧ Below w.heap.size w w' := by
  have HH : Hid (¬ x.ks.length = 0 ∧ kAre l (x.ks.take 1) [140667696185344] = false) := hh
  clear hh
  have HX0 := bx_new l x ao c w hl hks hi
  rw [hk] at HX0 ⊢
  have hbw : Below w.heap.size w ((w.alloc (.cells #[.slice ao l.length c] 22)).alloc (.cells #[.int .i64 46, .string x.nm, .int .i64 x.v, .slice x.ka x.ks.length x.kc, .int .i64 x.fr, .int .i64 x.en] 53)) := (below_cells w _ _).alloc (by simp) _
  have HKS : Hid (IsA w x.ka x.kc x.ks ∧ Inn l x.ks) := ⟨hks, hi⟩
  unfold ndv
  clear hl hks hi
  go_enter Tryz.func62, Tryz.ntmps62
  apply seq_to
  · go_wp2_with fail
    exact At.mk
  obtain ⟨W0, hW0⟩ : ∃ W, W = ((w.alloc (.cells #[.slice ao l.length c] 22)).alloc (.cells #[.int .i64 46, .string x.nm, .int .i64 x.v, .slice x.ka x.ks.length x.kc, .int .i64 x.fr, .int .i64 x.en] 53)) := ⟨_, rfl⟩
  rw [← hW0] at HX0 hbw ⊢
  clear hW0
  have HBW : Hid (Below w.heap.size w W0) := hbw
  have a0 : W0.cell? ⟨w.heap.size + 1, 0, none⟩ = some (.int .i64 46) := by rw [← hk]; exact HX0.cs 0 _ rfl
  have a2 : W0.cell? ⟨w.heap.size + 1, 2, none⟩ = some (.int .i64 x.v) := HX0.cs 2 _ rfl
  have a3 : W0.cell? ⟨w.heap.size + 1, 3, none⟩ = some (.slice x.ka x.ks.length x.kc) := HX0.cs 3 _ rfl
  have b0 : W0.cell? ⟨w.heap.size, 0, none⟩ = some (.slice ao l.length c) := HX0.bx
  have HX : Hid (Bx l x ao c w.heap.size (w.heap.size + 1) W0) := HX0
  have HZ : Hid (Below W0.heap.size W0 W0) := Below.refl _ _
  clear hbw HX0 hk
  have HALL : Hid (∀ W (g : Nat), Below W0.heap.size W0 W → g < 18446744073709551616 → Calls Tryz.prog 87 #[.int .u64 (g : Int), .pointer (some ⟨w.heap.size, 0, none⟩), .pointer (some ⟨w.heap.size + 1, 0, none⟩)] W fun e w' => e = .returned (.bool (kAll l x.ks g)) ∧ w' = W) := fun W g hW hg => all87 l x ao c _ _ g W (HX.out.below hW) hg
  have HARE : Hid (∀ W go gc (gs : List Nat), Below W0.heap.size W0 W → GrA W go gc gs → Calls Tryz.prog 85 #[.slice go gs.length gc, .pointer (some ⟨w.heap.size, 0, none⟩), .pointer (some ⟨w.heap.size + 1, 0, none⟩)] W fun e w' => e = .returned (.bool (kAre l x.ks gs)) ∧ Below W.heap.size W w') := fun W go gc gs hW hg => are85 l x gs ao go c _ _ gc W (HX.out.below hW) hg
  apply seq_to
  · go_wp2_with fail
    exact At.mk
  apply seq_to
  · go_wp2_with fail
    exact At.mk
  refine cut_ret ?_
  apply seq_ret
  apply seq_to
  · go_wp2_with fail
    exact At.mk
  apply blk_ret
  apply seq_ret
  apply blk_ret
  apply seq_ret
  apply blk_ret
  apply seq_ret
  apply blk_ret
  apply seq_to
  · apply blk_catch
    apply seq_exit
    apply blk_pass (by decide)
    apply seq_exit
    apply blk_pass (by decide)
    apply seq_exit
    apply blk_pass (by decide)
    apply seq_exit
    apply blk_pass (by decide)
    apply seq_exit
    apply blk_pass (by decide)
    apply seq_exit
    apply blk_pass (by decide)
    apply seq_exit
    apply blk_pass (by decide)
    apply seq_exit
    apply blk_pass (by decide)
    apply seq_exit
    apply blk_pass (by decide)
    apply seq_exit
    apply blk_pass (by decide)
    apply seq_exit
    apply blk_pass (by decide)
    apply seq_exit
    apply blk_pass (by decide)
    apply seq_exit
    apply blk_pass (by decide)
    apply seq_exit
    apply blk_pass (by decide)
    apply seq_exit
    apply blk_pass (by decide)
    go_wp2_with fail
    exact At.mk
  apply seq_ret
  have hz1 : w.heap.size < W0.heap.size := World.block_lt_of_cell? _ _ b0
  have hz2 : w.heap.size + 1 < W0.heap.size := World.block_lt_of_cell? _ _ a0
  have hm : 1 ≤ x.ks.length := by have := HH.out; omega
  have hmc : 1 ≤ x.kc := Nat.le_trans hm HX.out.ks.1
  have hkc : x.ks.length ≤ x.kc := HX.out.ks.1
  have hk2 : x.kc ≤ 9223372036854775807 := HX.out.ks.2.1
  have hgt : decide (0 < x.ks.length) = true := decide_eq_true (by omega)
  have hI1 : (1 : Int) ≤ (x.kc : Int) := by omega
  have hI2 : (1 : Int) ≤ (x.ks.length : Int) := by omega
  have hI3 : (x.ks.length : Int) ≤ (x.kc : Int) := by omega
  have i1 : IsA W0 x.ka x.kc (x.ks.take 1) := isa_take HX.out.ks 1
  have i2 : IsA W0 (if x.kc = 1 then x.ka else Option.map (fun y => y.add 1) x.ka) (x.kc - 1) (x.ks.drop 1) := isa_drop1 HX.out.ks
  have e1 : (x.ks.take 1).length = 1 := by rw [List.length_take]; omega
  have e2 : (x.ks.drop 1).length = x.ks.length - 1 := List.length_drop
  have H86 : Hid (∀ W go gc (gs : List Nat), Below W0.heap.size W0 W → GrA W go gc gs → Calls Tryz.prog 86 #[.slice ao l.length c, .slice x.ka 1 x.kc, .slice go gs.length gc] W fun e w' => e = .returned (.bool (kAre l (x.ks.take 1) gs)) ∧ Below W.heap.size W w') := fun W go gc gs hW hg => by have t := kindsAre86 l (x.ks.take 1) gs ao x.ka go c x.kc gc W (HX.out.below hW).nd (i1.below hW) (fun y hy => HX.out.inn y (List.mem_of_mem_take hy)) hg; rw [e1] at t; exact t
  have H88 : Hid (∀ W, Below W0.heap.size W0 W → Calls Tryz.prog 88 #[.slice ao l.length c, .slice (if x.kc = 1 then x.ka else Option.map (fun y => y.add 1) x.ka) (x.ks.length - 1) (x.kc - 1), .int .u64 (140737488355328 : Nat)] W fun e w' => e = .returned (.bool (kAll l (x.ks.drop 1) 140737488355328)) ∧ w' = W) := fun W hW => by have t := kindsAll88 l (x.ks.drop 1) ao (if x.kc = 1 then x.ka else Option.map (fun y => y.add 1) x.ka) c (x.kc - 1) 140737488355328 W (HX.out.below hW).nd (i2.below hW) (fun y hy => HX.out.inn y (List.mem_of_mem_drop hy)) (by decide); rw [e2] at t; exact t
  clear i1 i2 e1 e2
  obtain ⟨p2, hp2⟩ : ∃ p, (if x.kc = 1 then x.ka else Option.map (fun y => y.add 1) x.ka) = p := ⟨_, rfl⟩
  rw [hp2] at H88
  have HR : Hid (kAre l (x.ks.take 1) [140667696185344] = false) := HH.out.2
  have H86 : Hid (∀ W go gc (gs : List Nat), gs = [140667696185344] → Below W0.heap.size W0 W → GrA W go gc gs → Calls Tryz.prog 86 #[.slice ao l.length c, .slice x.ka 1 x.kc, .slice go gs.length gc] W fun e w' => e = .returned (.bool false) ∧ Below W.heap.size W w') := fun W go gc gs hgs hW hg => by have t := H86.out W go gc gs hW hg; subst hgs; rw [HR.out] at t; exact t
  generalize hmm : x.ks.length = m at *
  have HM : Hid (x.ks.length = m) := hmm
  clear hmm
  go_wp2_with fail
  refine wp_region_any (by kernel_rfl) ?_
  change wpAny _ _ _ _ _ _ _ (World.drew _)
  refine wpAny_take (i := 0) (v := ?_) rfl (by kernel_rfl) (by kernel_rfl) (by kernel_rfl) (fun _ _ _ h => absurd (And.left h) (by intro e; cases e)) (Or.inl ⟨by rfl, ?_⟩) ?_
  case refine_2 => ((intro w; go_simp) <;> with_reducible rfl)
  go_simp
  refine wpAny_ready (rs := [1]) (by kernel_rfl) (by simp) ?_
  refine AllReady.cons rfl ?_ AllReady.nil
  intro K hK
  go_simp
  refine hK _ _ ?_
  clear hK K
  refine wpAny_ready (rs := [2]) (by kernel_rfl) (by simp) ?_
  refine AllReady.cons rfl ?_ AllReady.nil
  intro K hK
  go_simp
  refine hK _ _ ?_
  clear hK K
  refine wpAny_take (i := 3) (v := ?_) rfl (by kernel_rfl) (by kernel_rfl) (by kernel_rfl) (fun _ _ _ h => absurd (And.left h) (by intro e; cases e)) (Or.inl ⟨by rfl, ?_⟩) ?_
  case refine_2 => ((intro w; go_simp) <;> with_reducible rfl)
  go_simp
  refine wpAny_take (i := 4) (v := ?_) rfl (by kernel_rfl) (by kernel_rfl) (by kernel_rfl) (fun _ _ _ h => absurd (And.left h) (by intro e; cases e)) (Or.inl ⟨by rfl, ?_⟩) ?_
  case refine_2 => ((intro w; go_simp) <;> with_reducible rfl)
  go_simp
  refine wpAny_take (i := 6) (v := ?_) rfl (by kernel_rfl) (by kernel_rfl) (by kernel_rfl) (fun _ _ _ h => absurd (And.left h) (by intro e; cases e)) (Or.inl ⟨by rfl, ?_⟩) ?_
  case refine_2 => ((intro w; go_simp) <;> with_reducible rfl)
  go_simp
  refine wpAny_ready (rs := [5, 7, 9]) (by kernel_rfl) (by simp) ?_
  refine AllReady.cons rfl ?_ (AllReady.cons rfl ?_ (AllReady.cons rfl ?_ AllReady.nil))
  · intro K hK
    go_simp
    refine hK _ _ ?_
    clear hK K
    refine wpAny_ready (rs := [7, 9]) (by kernel_rfl) (by simp) ?_
    refine AllReady.cons rfl ?_ (AllReady.cons rfl ?_ AllReady.nil)
    · intro K hK
      go_simp
      refine hK _ _ ?_
      clear hK K
      refine wpAny_take (i := 8) (v := ?_) rfl (by kernel_rfl) (by kernel_rfl) (by kernel_rfl) (fun _ _ _ h => absurd (And.left h) (by intro e; cases e)) (Or.inl ⟨by rfl, ?_⟩) ?_
      case refine_2 => ((intro w; go_simp) <;> with_reducible rfl)
      go_simp
      refine wpAny_ready (rs := [9]) (by kernel_rfl) (by simp) ?_
      refine AllReady.cons rfl ?_ AllReady.nil
      intro K hK
      go_simp
      refine hK _ _ ?_
      clear hK K
      refine wpAny_ready (rs := [10]) (by kernel_rfl) (by simp) ?_
      refine AllReady.cons rfl ?_ AllReady.nil
      intro K hK
      go_simp
      go_wp2_with fail
      refine (H86.out _ _ _ [140667696185344] rfl (HZ.out.drew.alloc (by simp) _) (gr_1 _ 140667696185344 _ (by decide))).mono ?_
      rintro e w2 ⟨rfl, hb⟩
      have HB2 : Hid (Below W0.heap.size W0 w2) := (HZ.out.drew.alloc (by simp) _).trans (hb.mono (by simp))
      clear hb
      have b2 : w2.cell? ⟨w.heap.size, 0, none⟩ = some (.slice ao l.length c) := (HX.out.below HB2.out).bx
      have a2 : w2.cell? ⟨w.heap.size + 1, 3, none⟩ = some (.slice x.ka m x.kc) := by rw [← HM.out]; exact (HX.out.below HB2.out).cs 3 _ rfl
      refine hK _ _ ?_
      clear hK K
      refine wpAny_take (i := 11) (v := ?_) rfl (by kernel_rfl) (by kernel_rfl) (by kernel_rfl) (fun _ _ _ h => absurd (And.left h) (by intro e; cases e)) (Or.inl ⟨by rfl, ?_⟩) ?_
      case refine_2 => ((intro w; go_simp) <;> with_reducible rfl)
      go_simp
      refine wpAny_take (i := 12) (v := ?_) rfl (by kernel_rfl) (by kernel_rfl) (by kernel_rfl) (fun _ _ _ h => absurd (And.left h) (by intro e; cases e)) (Or.inl ⟨by rfl, ?_⟩) ?_
      case refine_2 => ((intro w; go_simp) <;> with_reducible rfl)
      go_simp
      refine wpAny_take (i := 13) (v := undef) rfl (by kernel_rfl) (by kernel_rfl) (by kernel_rfl) (fun _ _ _ h => absurd (And.left h) (by intro e; cases e)) (Or.inr ⟨by rfl, rfl⟩) ?_
      go_simp
      refine wpAny_take (i := 14) (v := undef) rfl (by kernel_rfl) (by kernel_rfl) (by kernel_rfl) (fun _ _ _ h => absurd (And.left h) (by intro e; cases e)) (Or.inr ⟨by rfl, rfl⟩) ?_
      go_simp
      refine wpAny_take (i := 15) (v := undef) rfl (by kernel_rfl) (by kernel_rfl) (by kernel_rfl) (fun _ _ _ h => absurd (And.left h) (by intro e; cases e)) (Or.inr ⟨by rfl, rfl⟩) ?_
      go_simp
      refine wpAny_take (i := 16) (v := undef) rfl (by kernel_rfl) (by kernel_rfl) (by kernel_rfl) (fun _ _ _ h => absurd (And.left h) (by intro e; cases e)) (Or.inr ⟨by rfl, rfl⟩) ?_
      go_simp
      refine wpAny_take (i := 17) (v := undef) rfl (by kernel_rfl) (by kernel_rfl) (by kernel_rfl) (fun _ _ _ h => absurd (And.left h) (by intro e; cases e)) (Or.inr ⟨by rfl, rfl⟩) ?_
      go_simp
      refine wpAny_take (i := 18) (v := ?_) rfl (by kernel_rfl) (by kernel_rfl) (by kernel_rfl) (fun _ _ _ h => absurd (And.left h) (by intro e; cases e)) (Or.inl ⟨by rfl, ?_⟩) ?_
      case refine_2 => ((intro w; go_simp) <;> with_reducible rfl)
      go_simp
      refine wpAny_take (i := 19) (v := ?_) rfl (by kernel_rfl) (by kernel_rfl) (by kernel_rfl) (fun _ _ _ h => absurd (And.left h) (by intro e; cases e)) (Or.inl ⟨by rfl, ?_⟩) ?_
      case refine_2 => ((intro w; go_simp) <;> with_reducible rfl)
      go_simp
      refine wpAny_done (by kernel_rfl) ?_ _
      go_wp2
      refine Rt.mk ?_
      go_ret
      exact ⟨rfl, HBW.out.trans (HB2.out.mono HBW.out.size)⟩
    · intro K hK
      go_simp
      refine hK _ _ ?_
      clear hK K
      refine wpAny_ready (rs := [7]) (by kernel_rfl) (by simp) ?_
      refine AllReady.cons rfl ?_ AllReady.nil
      intro K hK
      go_simp
      refine hK _ _ ?_
      clear hK K
      refine wpAny_take (i := 8) (v := ?_) rfl (by kernel_rfl) (by kernel_rfl) (by kernel_rfl) (fun _ _ _ h => absurd (And.left h) (by intro e; cases e)) (Or.inl ⟨by rfl, ?_⟩) ?_
      case refine_2 => ((intro w; go_simp) <;> with_reducible rfl)
      go_simp
      refine wpAny_ready (rs := [10]) (by kernel_rfl) (by simp) ?_
      refine AllReady.cons rfl ?_ AllReady.nil
      intro K hK
      go_simp
      go_wp2_with fail
      refine (H86.out _ _ _ [140667696185344] rfl (HZ.out.drew.alloc (by simp) _) (gr_1 _ 140667696185344 _ (by decide))).mono ?_
      rintro e w2 ⟨rfl, hb⟩
      have HB2 : Hid (Below W0.heap.size W0 w2) := (HZ.out.drew.alloc (by simp) _).trans (hb.mono (by simp))
      clear hb
      have b2 : w2.cell? ⟨w.heap.size, 0, none⟩ = some (.slice ao l.length c) := (HX.out.below HB2.out).bx
      have a2 : w2.cell? ⟨w.heap.size + 1, 3, none⟩ = some (.slice x.ka m x.kc) := by rw [← HM.out]; exact (HX.out.below HB2.out).cs 3 _ rfl
      refine hK _ _ ?_
      clear hK K
      refine wpAny_take (i := 11) (v := ?_) rfl (by kernel_rfl) (by kernel_rfl) (by kernel_rfl) (fun _ _ _ h => absurd (And.left h) (by intro e; cases e)) (Or.inl ⟨by rfl, ?_⟩) ?_
      case refine_2 => ((intro w; go_simp) <;> with_reducible rfl)
      go_simp
      refine wpAny_take (i := 12) (v := ?_) rfl (by kernel_rfl) (by kernel_rfl) (by kernel_rfl) (fun _ _ _ h => absurd (And.left h) (by intro e; cases e)) (Or.inl ⟨by rfl, ?_⟩) ?_
      case refine_2 => ((intro w; go_simp) <;> with_reducible rfl)
      go_simp
      refine wpAny_take (i := 13) (v := undef) rfl (by kernel_rfl) (by kernel_rfl) (by kernel_rfl) (fun _ _ _ h => absurd (And.left h) (by intro e; cases e)) (Or.inr ⟨by rfl, rfl⟩) ?_
      go_simp
      refine wpAny_take (i := 14) (v := undef) rfl (by kernel_rfl) (by kernel_rfl) (by kernel_rfl) (fun _ _ _ h => absurd (And.left h) (by intro e; cases e)) (Or.inr ⟨by rfl, rfl⟩) ?_
      go_simp
      refine wpAny_take (i := 15) (v := undef) rfl (by kernel_rfl) (by kernel_rfl) (by kernel_rfl) (fun _ _ _ h => absurd (And.left h) (by intro e; cases e)) (Or.inr ⟨by rfl, rfl⟩) ?_
      go_simp
      refine wpAny_take (i := 16) (v := undef) rfl (by kernel_rfl) (by kernel_rfl) (by kernel_rfl) (fun _ _ _ h => absurd (And.left h) (by intro e; cases e)) (Or.inr ⟨by rfl, rfl⟩) ?_
      go_simp
      refine wpAny_take (i := 17) (v := undef) rfl (by kernel_rfl) (by kernel_rfl) (by kernel_rfl) (fun _ _ _ h => absurd (And.left h) (by intro e; cases e)) (Or.inr ⟨by rfl, rfl⟩) ?_
      go_simp
      refine wpAny_take (i := 18) (v := ?_) rfl (by kernel_rfl) (by kernel_rfl) (by kernel_rfl) (fun _ _ _ h => absurd (And.left h) (by intro e; cases e)) (Or.inl ⟨by rfl, ?_⟩) ?_
      case refine_2 => ((intro w; go_simp) <;> with_reducible rfl)
      go_simp
      refine wpAny_take (i := 19) (v := ?_) rfl (by kernel_rfl) (by kernel_rfl) (by kernel_rfl) (fun _ _ _ h => absurd (And.left h) (by intro e; cases e)) (Or.inl ⟨by rfl, ?_⟩) ?_
      case refine_2 => ((intro w; go_simp) <;> with_reducible rfl)
      go_simp
      refine wpAny_done (by kernel_rfl) ?_ _
      go_wp2
      refine Rt.mk ?_
      go_ret
      exact ⟨rfl, HBW.out.trans (HB2.out.mono HBW.out.size)⟩
  · intro K hK
    go_simp
    refine hK _ _ ?_
    clear hK K
    refine wpAny_take (i := 8) (v := ?_) rfl (by kernel_rfl) (by kernel_rfl) (by kernel_rfl) (fun _ _ _ h => absurd (And.left h) (by intro e; cases e)) (Or.inl ⟨by rfl, ?_⟩) ?_
    case refine_2 => ((intro w; go_simp) <;> with_reducible rfl)
    go_simp
    refine wpAny_ready (rs := [5, 9]) (by kernel_rfl) (by simp) ?_
    refine AllReady.cons rfl ?_ (AllReady.cons rfl ?_ AllReady.nil)
    · intro K hK
      go_simp
      refine hK _ _ ?_
      clear hK K
      refine wpAny_ready (rs := [9]) (by kernel_rfl) (by simp) ?_
      refine AllReady.cons rfl ?_ AllReady.nil
      intro K hK
      go_simp
      refine hK _ _ ?_
      clear hK K
      refine wpAny_ready (rs := [10]) (by kernel_rfl) (by simp) ?_
      refine AllReady.cons rfl ?_ AllReady.nil
      intro K hK
      go_simp
      go_wp2_with fail
      refine (H86.out _ _ _ [140667696185344] rfl (HZ.out.drew.alloc (by simp) _) (gr_1 _ 140667696185344 _ (by decide))).mono ?_
      rintro e w2 ⟨rfl, hb⟩
      have HB2 : Hid (Below W0.heap.size W0 w2) := (HZ.out.drew.alloc (by simp) _).trans (hb.mono (by simp))
      clear hb
      have b2 : w2.cell? ⟨w.heap.size, 0, none⟩ = some (.slice ao l.length c) := (HX.out.below HB2.out).bx
      have a2 : w2.cell? ⟨w.heap.size + 1, 3, none⟩ = some (.slice x.ka m x.kc) := by rw [← HM.out]; exact (HX.out.below HB2.out).cs 3 _ rfl
      refine hK _ _ ?_
      clear hK K
      refine wpAny_take (i := 11) (v := ?_) rfl (by kernel_rfl) (by kernel_rfl) (by kernel_rfl) (fun _ _ _ h => absurd (And.left h) (by intro e; cases e)) (Or.inl ⟨by rfl, ?_⟩) ?_
      case refine_2 => ((intro w; go_simp) <;> with_reducible rfl)
      go_simp
      refine wpAny_take (i := 12) (v := ?_) rfl (by kernel_rfl) (by kernel_rfl) (by kernel_rfl) (fun _ _ _ h => absurd (And.left h) (by intro e; cases e)) (Or.inl ⟨by rfl, ?_⟩) ?_
      case refine_2 => ((intro w; go_simp) <;> with_reducible rfl)
      go_simp
      refine wpAny_take (i := 13) (v := undef) rfl (by kernel_rfl) (by kernel_rfl) (by kernel_rfl) (fun _ _ _ h => absurd (And.left h) (by intro e; cases e)) (Or.inr ⟨by rfl, rfl⟩) ?_
      go_simp
      refine wpAny_take (i := 14) (v := undef) rfl (by kernel_rfl) (by kernel_rfl) (by kernel_rfl) (fun _ _ _ h => absurd (And.left h) (by intro e; cases e)) (Or.inr ⟨by rfl, rfl⟩) ?_
      go_simp
      refine wpAny_take (i := 15) (v := undef) rfl (by kernel_rfl) (by kernel_rfl) (by kernel_rfl) (fun _ _ _ h => absurd (And.left h) (by intro e; cases e)) (Or.inr ⟨by rfl, rfl⟩) ?_
      go_simp
      refine wpAny_take (i := 16) (v := undef) rfl (by kernel_rfl) (by kernel_rfl) (by kernel_rfl) (fun _ _ _ h => absurd (And.left h) (by intro e; cases e)) (Or.inr ⟨by rfl, rfl⟩) ?_
      go_simp
      refine wpAny_take (i := 17) (v := undef) rfl (by kernel_rfl) (by kernel_rfl) (by kernel_rfl) (fun _ _ _ h => absurd (And.left h) (by intro e; cases e)) (Or.inr ⟨by rfl, rfl⟩) ?_
      go_simp
      refine wpAny_take (i := 18) (v := ?_) rfl (by kernel_rfl) (by kernel_rfl) (by kernel_rfl) (fun _ _ _ h => absurd (And.left h) (by intro e; cases e)) (Or.inl ⟨by rfl, ?_⟩) ?_
      case refine_2 => ((intro w; go_simp) <;> with_reducible rfl)
      go_simp
      refine wpAny_take (i := 19) (v := ?_) rfl (by kernel_rfl) (by kernel_rfl) (by kernel_rfl) (fun _ _ _ h => absurd (And.left h) (by intro e; cases e)) (Or.inl ⟨by rfl, ?_⟩) ?_
      case refine_2 => ((intro w; go_simp) <;> with_reducible rfl)
      go_simp
      refine wpAny_done (by kernel_rfl) ?_ _
      go_wp2
      refine Rt.mk ?_
      go_ret
      exact ⟨rfl, HBW.out.trans (HB2.out.mono HBW.out.size)⟩
    · intro K hK
      go_simp
      refine hK _ _ ?_
      clear hK K
      refine wpAny_ready (rs := [5]) (by kernel_rfl) (by simp) ?_
      refine AllReady.cons rfl ?_ AllReady.nil
      intro K hK
      go_simp
      refine hK _ _ ?_
      clear hK K
      refine wpAny_ready (rs := [10]) (by kernel_rfl) (by simp) ?_
      refine AllReady.cons rfl ?_ AllReady.nil
      intro K hK
      go_simp
      go_wp2_with fail
      refine (H86.out _ _ _ [140667696185344] rfl (HZ.out.drew.alloc (by simp) _) (gr_1 _ 140667696185344 _ (by decide))).mono ?_
      rintro e w2 ⟨rfl, hb⟩
      have HB2 : Hid (Below W0.heap.size W0 w2) := (HZ.out.drew.alloc (by simp) _).trans (hb.mono (by simp))
      clear hb
      have b2 : w2.cell? ⟨w.heap.size, 0, none⟩ = some (.slice ao l.length c) := (HX.out.below HB2.out).bx
      have a2 : w2.cell? ⟨w.heap.size + 1, 3, none⟩ = some (.slice x.ka m x.kc) := by rw [← HM.out]; exact (HX.out.below HB2.out).cs 3 _ rfl
      refine hK _ _ ?_
      clear hK K
      refine wpAny_take (i := 11) (v := ?_) rfl (by kernel_rfl) (by kernel_rfl) (by kernel_rfl) (fun _ _ _ h => absurd (And.left h) (by intro e; cases e)) (Or.inl ⟨by rfl, ?_⟩) ?_
      case refine_2 => ((intro w; go_simp) <;> with_reducible rfl)
      go_simp
      refine wpAny_take (i := 12) (v := ?_) rfl (by kernel_rfl) (by kernel_rfl) (by kernel_rfl) (fun _ _ _ h => absurd (And.left h) (by intro e; cases e)) (Or.inl ⟨by rfl, ?_⟩) ?_
      case refine_2 => ((intro w; go_simp) <;> with_reducible rfl)
      go_simp
      refine wpAny_take (i := 13) (v := undef) rfl (by kernel_rfl) (by kernel_rfl) (by kernel_rfl) (fun _ _ _ h => absurd (And.left h) (by intro e; cases e)) (Or.inr ⟨by rfl, rfl⟩) ?_
      go_simp
      refine wpAny_take (i := 14) (v := undef) rfl (by kernel_rfl) (by kernel_rfl) (by kernel_rfl) (fun _ _ _ h => absurd (And.left h) (by intro e; cases e)) (Or.inr ⟨by rfl, rfl⟩) ?_
      go_simp
      refine wpAny_take (i := 15) (v := undef) rfl (by kernel_rfl) (by kernel_rfl) (by kernel_rfl) (fun _ _ _ h => absurd (And.left h) (by intro e; cases e)) (Or.inr ⟨by rfl, rfl⟩) ?_
      go_simp
      refine wpAny_take (i := 16) (v := undef) rfl (by kernel_rfl) (by kernel_rfl) (by kernel_rfl) (fun _ _ _ h => absurd (And.left h) (by intro e; cases e)) (Or.inr ⟨by rfl, rfl⟩) ?_
      go_simp
      refine wpAny_take (i := 17) (v := undef) rfl (by kernel_rfl) (by kernel_rfl) (by kernel_rfl) (fun _ _ _ h => absurd (And.left h) (by intro e; cases e)) (Or.inr ⟨by rfl, rfl⟩) ?_
      go_simp
      refine wpAny_take (i := 18) (v := ?_) rfl (by kernel_rfl) (by kernel_rfl) (by kernel_rfl) (fun _ _ _ h => absurd (And.left h) (by intro e; cases e)) (Or.inl ⟨by rfl, ?_⟩) ?_
      case refine_2 => ((intro w; go_simp) <;> with_reducible rfl)
      go_simp
      refine wpAny_take (i := 19) (v := ?_) rfl (by kernel_rfl) (by kernel_rfl) (by kernel_rfl) (fun _ _ _ h => absurd (And.left h) (by intro e; cases e)) (Or.inl ⟨by rfl, ?_⟩) ?_
      case refine_2 => ((intro w; go_simp) <;> with_reducible rfl)
      go_simp
      refine wpAny_done (by kernel_rfl) ?_ _
      go_wp2
      refine Rt.mk ?_
      go_ret
      exact ⟨rfl, HBW.out.trans (HB2.out.mono HBW.out.size)⟩
  · intro K hK
    go_simp
    refine hK _ _ ?_
    clear hK K
    refine wpAny_ready (rs := [5, 7]) (by kernel_rfl) (by simp) ?_
    refine AllReady.cons rfl ?_ (AllReady.cons rfl ?_ AllReady.nil)
    · intro K hK
      go_simp
      refine hK _ _ ?_
      clear hK K
      refine wpAny_ready (rs := [7]) (by kernel_rfl) (by simp) ?_
      refine AllReady.cons rfl ?_ AllReady.nil
      intro K hK
      go_simp
      refine hK _ _ ?_
      clear hK K
      refine wpAny_take (i := 8) (v := ?_) rfl (by kernel_rfl) (by kernel_rfl) (by kernel_rfl) (fun _ _ _ h => absurd (And.left h) (by intro e; cases e)) (Or.inl ⟨by rfl, ?_⟩) ?_
      case refine_2 => ((intro w; go_simp) <;> with_reducible rfl)
      go_simp
      refine wpAny_ready (rs := [10]) (by kernel_rfl) (by simp) ?_
      refine AllReady.cons rfl ?_ AllReady.nil
      intro K hK
      go_simp
      go_wp2_with fail
      refine (H86.out _ _ _ [140667696185344] rfl (HZ.out.drew.alloc (by simp) _) (gr_1 _ 140667696185344 _ (by decide))).mono ?_
      rintro e w2 ⟨rfl, hb⟩
      have HB2 : Hid (Below W0.heap.size W0 w2) := (HZ.out.drew.alloc (by simp) _).trans (hb.mono (by simp))
      clear hb
      have b2 : w2.cell? ⟨w.heap.size, 0, none⟩ = some (.slice ao l.length c) := (HX.out.below HB2.out).bx
      have a2 : w2.cell? ⟨w.heap.size + 1, 3, none⟩ = some (.slice x.ka m x.kc) := by rw [← HM.out]; exact (HX.out.below HB2.out).cs 3 _ rfl
      refine hK _ _ ?_
      clear hK K
      refine wpAny_take (i := 11) (v := ?_) rfl (by kernel_rfl) (by kernel_rfl) (by kernel_rfl) (fun _ _ _ h => absurd (And.left h) (by intro e; cases e)) (Or.inl ⟨by rfl, ?_⟩) ?_
      case refine_2 => ((intro w; go_simp) <;> with_reducible rfl)
      go_simp
      refine wpAny_take (i := 12) (v := ?_) rfl (by kernel_rfl) (by kernel_rfl) (by kernel_rfl) (fun _ _ _ h => absurd (And.left h) (by intro e; cases e)) (Or.inl ⟨by rfl, ?_⟩) ?_
      case refine_2 => ((intro w; go_simp) <;> with_reducible rfl)
      go_simp
      refine wpAny_take (i := 13) (v := undef) rfl (by kernel_rfl) (by kernel_rfl) (by kernel_rfl) (fun _ _ _ h => absurd (And.left h) (by intro e; cases e)) (Or.inr ⟨by rfl, rfl⟩) ?_
      go_simp
      refine wpAny_take (i := 14) (v := undef) rfl (by kernel_rfl) (by kernel_rfl) (by kernel_rfl) (fun _ _ _ h => absurd (And.left h) (by intro e; cases e)) (Or.inr ⟨by rfl, rfl⟩) ?_
      go_simp
      refine wpAny_take (i := 15) (v := undef) rfl (by kernel_rfl) (by kernel_rfl) (by kernel_rfl) (fun _ _ _ h => absurd (And.left h) (by intro e; cases e)) (Or.inr ⟨by rfl, rfl⟩) ?_
      go_simp
      refine wpAny_take (i := 16) (v := undef) rfl (by kernel_rfl) (by kernel_rfl) (by kernel_rfl) (fun _ _ _ h => absurd (And.left h) (by intro e; cases e)) (Or.inr ⟨by rfl, rfl⟩) ?_
      go_simp
      refine wpAny_take (i := 17) (v := undef) rfl (by kernel_rfl) (by kernel_rfl) (by kernel_rfl) (fun _ _ _ h => absurd (And.left h) (by intro e; cases e)) (Or.inr ⟨by rfl, rfl⟩) ?_
      go_simp
      refine wpAny_take (i := 18) (v := ?_) rfl (by kernel_rfl) (by kernel_rfl) (by kernel_rfl) (fun _ _ _ h => absurd (And.left h) (by intro e; cases e)) (Or.inl ⟨by rfl, ?_⟩) ?_
      case refine_2 => ((intro w; go_simp) <;> with_reducible rfl)
      go_simp
      refine wpAny_take (i := 19) (v := ?_) rfl (by kernel_rfl) (by kernel_rfl) (by kernel_rfl) (fun _ _ _ h => absurd (And.left h) (by intro e; cases e)) (Or.inl ⟨by rfl, ?_⟩) ?_
      case refine_2 => ((intro w; go_simp) <;> with_reducible rfl)
      go_simp
      refine wpAny_done (by kernel_rfl) ?_ _
      go_wp2
      refine Rt.mk ?_
      go_ret
      exact ⟨rfl, HBW.out.trans (HB2.out.mono HBW.out.size)⟩
    · intro K hK
      go_simp
      refine hK _ _ ?_
      clear hK K
      refine wpAny_take (i := 8) (v := ?_) rfl (by kernel_rfl) (by kernel_rfl) (by kernel_rfl) (fun _ _ _ h => absurd (And.left h) (by intro e; cases e)) (Or.inl ⟨by rfl, ?_⟩) ?_
      case refine_2 => ((intro w; go_simp) <;> with_reducible rfl)
      go_simp
      refine wpAny_ready (rs := [5]) (by kernel_rfl) (by simp) ?_
      refine AllReady.cons rfl ?_ AllReady.nil
      intro K hK
      go_simp
      refine hK _ _ ?_
      clear hK K
      refine wpAny_ready (rs := [10]) (by kernel_rfl) (by simp) ?_
      refine AllReady.cons rfl ?_ AllReady.nil
      intro K hK
      go_simp
      go_wp2_with fail
      refine (H86.out _ _ _ [140667696185344] rfl (HZ.out.drew.alloc (by simp) _) (gr_1 _ 140667696185344 _ (by decide))).mono ?_
      rintro e w2 ⟨rfl, hb⟩
      have HB2 : Hid (Below W0.heap.size W0 w2) := (HZ.out.drew.alloc (by simp) _).trans (hb.mono (by simp))
      clear hb
      have b2 : w2.cell? ⟨w.heap.size, 0, none⟩ = some (.slice ao l.length c) := (HX.out.below HB2.out).bx
      have a2 : w2.cell? ⟨w.heap.size + 1, 3, none⟩ = some (.slice x.ka m x.kc) := by rw [← HM.out]; exact (HX.out.below HB2.out).cs 3 _ rfl
      refine hK _ _ ?_
      clear hK K
      refine wpAny_take (i := 11) (v := ?_) rfl (by kernel_rfl) (by kernel_rfl) (by kernel_rfl) (fun _ _ _ h => absurd (And.left h) (by intro e; cases e)) (Or.inl ⟨by rfl, ?_⟩) ?_
      case refine_2 => ((intro w; go_simp) <;> with_reducible rfl)
      go_simp
      refine wpAny_take (i := 12) (v := ?_) rfl (by kernel_rfl) (by kernel_rfl) (by kernel_rfl) (fun _ _ _ h => absurd (And.left h) (by intro e; cases e)) (Or.inl ⟨by rfl, ?_⟩) ?_
      case refine_2 => ((intro w; go_simp) <;> with_reducible rfl)
      go_simp
      refine wpAny_take (i := 13) (v := undef) rfl (by kernel_rfl) (by kernel_rfl) (by kernel_rfl) (fun _ _ _ h => absurd (And.left h) (by intro e; cases e)) (Or.inr ⟨by rfl, rfl⟩) ?_
      go_simp
      refine wpAny_take (i := 14) (v := undef) rfl (by kernel_rfl) (by kernel_rfl) (by kernel_rfl) (fun _ _ _ h => absurd (And.left h) (by intro e; cases e)) (Or.inr ⟨by rfl, rfl⟩) ?_
      go_simp
      refine wpAny_take (i := 15) (v := undef) rfl (by kernel_rfl) (by kernel_rfl) (by kernel_rfl) (fun _ _ _ h => absurd (And.left h) (by intro e; cases e)) (Or.inr ⟨by rfl, rfl⟩) ?_
      go_simp
      refine wpAny_take (i := 16) (v := undef) rfl (by kernel_rfl) (by kernel_rfl) (by kernel_rfl) (fun _ _ _ h => absurd (And.left h) (by intro e; cases e)) (Or.inr ⟨by rfl, rfl⟩) ?_
      go_simp
      refine wpAny_take (i := 17) (v := undef) rfl (by kernel_rfl) (by kernel_rfl) (by kernel_rfl) (fun _ _ _ h => absurd (And.left h) (by intro e; cases e)) (Or.inr ⟨by rfl, rfl⟩) ?_
      go_simp
      refine wpAny_take (i := 18) (v := ?_) rfl (by kernel_rfl) (by kernel_rfl) (by kernel_rfl) (fun _ _ _ h => absurd (And.left h) (by intro e; cases e)) (Or.inl ⟨by rfl, ?_⟩) ?_
      case refine_2 => ((intro w; go_simp) <;> with_reducible rfl)
      go_simp
      refine wpAny_take (i := 19) (v := ?_) rfl (by kernel_rfl) (by kernel_rfl) (by kernel_rfl) (fun _ _ _ h => absurd (And.left h) (by intro e; cases e)) (Or.inl ⟨by rfl, ?_⟩) ?_
      case refine_2 => ((intro w; go_simp) <;> with_reducible rfl)
      go_simp
      refine wpAny_done (by kernel_rfl) ?_ _
      go_wp2
      refine Rt.mk ?_
      go_ret
      exact ⟨rfl, HBW.out.trans (HB2.out.mono HBW.out.size)⟩
end Go.Proofs.YtkkmeogehapjoaaGreatDoor
