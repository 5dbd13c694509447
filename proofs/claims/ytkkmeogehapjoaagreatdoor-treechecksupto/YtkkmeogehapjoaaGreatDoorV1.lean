/- A node's kids: a match. -/
import Derived.Test.YtkkmeogehapjoaaGreatDoorTB
namespace Go.Proofs.YtkkmeogehapjoaaGreatDoor
open Go.RowKit Go.Shelf
theorem isa_drop1 {w : World} {ao : Option Addr} {c : Nat} {l : List Int} (h : IsA w ao c l) : IsA w (if c = 1 then ao else Option.map (fun y => y.add 1) ao) (c - 1) (l.drop 1) := by
  obtain ⟨h1, h2, h3⟩ := h
  refine ⟨by rw [List.length_drop]; omega, by omega, fun hl => ?_⟩
  rw [List.length_drop] at hl
  obtain ⟨g, o, e1, e2⟩ := h3 (by omega)
  refine ⟨g, o + 1, ?_, fun j y hy => ?_⟩
  · rw [if_neg (by omega), e1]
    simp [Addr.add_lit]
  · rw [List.getElem?_drop] at hy
    rw [Nat.add_assoc]
    exact e2 _ _ hy
set_option maxRecDepth 100000 in
set_option maxHeartbeats 4000000 in
theorem kf_46_A (l : List Nd) (x : Nd) (ao : Option Addr) (c : Nat) (w : World) (hk : x.k = 46) (hl : NdA w ao c l) (hks : IsA w x.ka x.kc x.ks) (hi : Inn l x.ks) (hh : x.ks.length = 0) : Calls Tryz.prog 62 #[.slice ao l.length c, ndv x.k x.nm x.v (.slice x.ka x.ks.length x.kc) x.fr x.en] w fun r w' => r = .returned (.bool (false)) ∧ Below w.heap.size w w' := by
  have HH : Hid (x.ks.length = 0) := hh
  clear hh
  have HX0 := bx_new l x ao c w hl hks hi
  rw [hk] at HX0 ⊢
  have hbw : Below w.heap.size w ((w.alloc (.cells #[.slice ao l.length c] 22)).alloc (.cells #[.int .i64 46, .string x.nm, .int .i64 x.v, .slice x.ka x.ks.length x.kc, .int .i64 x.fr, .int .i64 x.en] 53)) := (below_cells w _ _).alloc (by simp) _
  have HKS : Hid (IsA w x.ka x.kc x.ks ∧ Inn l x.ks) := ⟨hks, hi⟩
  unfold ndv
  clear hl hks hi
  go_enter Tryz.func62, Tryz.ntmps62
  apply seq_to
  · go_wp2_with fail
    exact At.mk
  obtain ⟨W0, hW0⟩ : ∃ W, W = ((w.alloc (.cells #[.slice ao l.length c] 22)).alloc (.cells #[.int .i64 46, .string x.nm, .int .i64 x.v, .slice x.ka x.ks.length x.kc, .int .i64 x.fr, .int .i64 x.en] 53)) := ⟨_, rfl⟩
  rw [← hW0] at HX0 hbw ⊢
  clear hW0
  have HBW : Hid (Below w.heap.size w W0) := hbw
  have a0 : W0.cell? ⟨w.heap.size + 1, 0, none⟩ = some (.int .i64 46) := by rw [← hk]; exact HX0.cs 0 _ rfl
  have a2 : W0.cell? ⟨w.heap.size + 1, 2, none⟩ = some (.int .i64 x.v) := HX0.cs 2 _ rfl
  have a3 : W0.cell? ⟨w.heap.size + 1, 3, none⟩ = some (.slice x.ka x.ks.length x.kc) := HX0.cs 3 _ rfl
  have b0 : W0.cell? ⟨w.heap.size, 0, none⟩ = some (.slice ao l.length c) := HX0.bx
  have HX : Hid (Bx l x ao c w.heap.size (w.heap.size + 1) W0) := HX0
  have HZ : Hid (Below W0.heap.size W0 W0) := Below.refl _ _
  clear hbw HX0 hk
  have HALL : Hid (∀ W (g : Nat), Below W0.heap.size W0 W → g < 18446744073709551616 → Calls Tryz.prog 87 #[.int .u64 (g : Int), .pointer (some ⟨w.heap.size, 0, none⟩), .pointer (some ⟨w.heap.size + 1, 0, none⟩)] W fun e w' => e = .returned (.bool (kAll l x.ks g)) ∧ w' = W) := fun W g hW hg => all87 l x ao c _ _ g W (HX.out.below hW) hg
  have HARE : Hid (∀ W go gc (gs : List Nat), Below W0.heap.size W0 W → GrA W go gc gs → Calls Tryz.prog 85 #[.slice go gs.length gc, .pointer (some ⟨w.heap.size, 0, none⟩), .pointer (some ⟨w.heap.size + 1, 0, none⟩)] W fun e w' => e = .returned (.bool (kAre l x.ks gs)) ∧ Below W.heap.size W w') := fun W go gc gs hW hg => are85 l x gs ao go c _ _ gc W (HX.out.below hW) hg
  apply seq_to
  · go_wp2_with fail
    exact At.mk
  apply seq_to
  · go_wp2_with fail
    exact At.mk
  refine cut_ret ?_
  apply seq_ret
  apply seq_to
  · go_wp2_with fail
    exact At.mk
  apply blk_ret
  apply seq_ret
  apply blk_ret
  apply seq_ret
  apply blk_ret
  apply seq_ret
  apply blk_ret
  apply seq_to
  · apply blk_catch
    apply seq_exit
    apply blk_pass (by decide)
    apply seq_exit
    apply blk_pass (by decide)
    apply seq_exit
    apply blk_pass (by decide)
    apply seq_exit
    apply blk_pass (by decide)
    apply seq_exit
    apply blk_pass (by decide)
    apply seq_exit
    apply blk_pass (by decide)
    apply seq_exit
    apply blk_pass (by decide)
    apply seq_exit
    apply blk_pass (by decide)
    apply seq_exit
    apply blk_pass (by decide)
    apply seq_exit
    apply blk_pass (by decide)
    apply seq_exit
    apply blk_pass (by decide)
    apply seq_exit
    apply blk_pass (by decide)
    apply seq_exit
    apply blk_pass (by decide)
    apply seq_exit
    apply blk_pass (by decide)
    apply seq_exit
    apply blk_pass (by decide)
    go_wp2_with fail
    exact At.mk
  apply seq_ret
  have hz1 : w.heap.size < W0.heap.size := World.block_lt_of_cell? _ _ b0
  have hz2 : w.heap.size + 1 < W0.heap.size := World.block_lt_of_cell? _ _ a0
  have hgt : decide (0 < x.ks.length) = false := decide_eq_false (by have := HH.out; omega)
  generalize hmm : x.ks.length = m at *
  have HM : Hid (x.ks.length = m) := hmm
  clear hmm
  go_wp2_with fail
  refine wp_region_any (by kernel_rfl) ?_
  change wpAny _ _ _ _ _ _ _ (World.drew _)
  refine wpAny_take (i := 0) (v := ?_) rfl (by kernel_rfl) (by kernel_rfl) (by kernel_rfl) (fun _ _ _ h => absurd (And.left h) (by intro e; cases e)) (Or.inl ⟨by rfl, ?_⟩) ?_
  case refine_2 => ((intro w; go_simp) <;> with_reducible rfl)
  go_simp
  refine wpAny_ready (rs := [1]) (by kernel_rfl) (by simp) ?_
  refine AllReady.cons rfl ?_ AllReady.nil
  intro K hK
  go_simp
  refine hK _ _ ?_
  clear hK K
  refine wpAny_ready (rs := [2]) (by kernel_rfl) (by simp) ?_
  refine AllReady.cons rfl ?_ AllReady.nil
  intro K hK
  go_simp
  refine hK _ _ ?_
  clear hK K
  refine wpAny_take (i := 3) (v := ?_) rfl (by kernel_rfl) (by kernel_rfl) (by kernel_rfl) (fun _ _ _ h => absurd (And.left h) (by intro e; cases e)) (Or.inl ⟨by rfl, ?_⟩) ?_
  case refine_2 => ((intro w; go_simp) <;> with_reducible rfl)
  go_simp
  refine wpAny_take (i := 4) (v := ?_) rfl (by kernel_rfl) (by kernel_rfl) (by kernel_rfl) (fun _ _ _ h => absurd (And.left h) (by intro e; cases e)) (Or.inl ⟨by rfl, ?_⟩) ?_
  case refine_2 => ((intro w; go_simp) <;> with_reducible rfl)
  go_simp
  refine wpAny_take (i := 5) (v := undef) rfl (by kernel_rfl) (by kernel_rfl) (by kernel_rfl) (fun _ _ _ h => absurd (And.left h) (by intro e; cases e)) (Or.inr ⟨by rfl, rfl⟩) ?_
  go_simp
  refine wpAny_take (i := 6) (v := undef) rfl (by kernel_rfl) (by kernel_rfl) (by kernel_rfl) (fun _ _ _ h => absurd (And.left h) (by intro e; cases e)) (Or.inr ⟨by rfl, rfl⟩) ?_
  go_simp
  refine wpAny_take (i := 7) (v := undef) rfl (by kernel_rfl) (by kernel_rfl) (by kernel_rfl) (fun _ _ _ h => absurd (And.left h) (by intro e; cases e)) (Or.inr ⟨by rfl, rfl⟩) ?_
  go_simp
  refine wpAny_take (i := 8) (v := undef) rfl (by kernel_rfl) (by kernel_rfl) (by kernel_rfl) (fun _ _ _ h => absurd (And.left h) (by intro e; cases e)) (Or.inr ⟨by rfl, rfl⟩) ?_
  go_simp
  refine wpAny_take (i := 9) (v := undef) rfl (by kernel_rfl) (by kernel_rfl) (by kernel_rfl) (fun _ _ _ h => absurd (And.left h) (by intro e; cases e)) (Or.inr ⟨by rfl, rfl⟩) ?_
  go_simp
  refine wpAny_take (i := 10) (v := undef) rfl (by kernel_rfl) (by kernel_rfl) (by kernel_rfl) (fun _ _ _ h => absurd (And.left h) (by intro e; cases e)) (Or.inr ⟨by rfl, rfl⟩) ?_
  go_simp
  refine wpAny_take (i := 11) (v := ?_) rfl (by kernel_rfl) (by kernel_rfl) (by kernel_rfl) (fun _ _ _ h => absurd (And.left h) (by intro e; cases e)) (Or.inl ⟨by rfl, ?_⟩) ?_
  case refine_2 => ((intro w; go_simp) <;> with_reducible rfl)
  go_simp
  refine wpAny_take (i := 12) (v := ?_) rfl (by kernel_rfl) (by kernel_rfl) (by kernel_rfl) (fun _ _ _ h => absurd (And.left h) (by intro e; cases e)) (Or.inl ⟨by rfl, ?_⟩) ?_
  case refine_2 => ((intro w; go_simp) <;> with_reducible rfl)
  go_simp
  refine wpAny_take (i := 13) (v := undef) rfl (by kernel_rfl) (by kernel_rfl) (by kernel_rfl) (fun _ _ _ h => absurd (And.left h) (by intro e; cases e)) (Or.inr ⟨by rfl, rfl⟩) ?_
  go_simp
  refine wpAny_take (i := 14) (v := undef) rfl (by kernel_rfl) (by kernel_rfl) (by kernel_rfl) (fun _ _ _ h => absurd (And.left h) (by intro e; cases e)) (Or.inr ⟨by rfl, rfl⟩) ?_
  go_simp
  refine wpAny_take (i := 15) (v := undef) rfl (by kernel_rfl) (by kernel_rfl) (by kernel_rfl) (fun _ _ _ h => absurd (And.left h) (by intro e; cases e)) (Or.inr ⟨by rfl, rfl⟩) ?_
  go_simp
  refine wpAny_take (i := 16) (v := undef) rfl (by kernel_rfl) (by kernel_rfl) (by kernel_rfl) (fun _ _ _ h => absurd (And.left h) (by intro e; cases e)) (Or.inr ⟨by rfl, rfl⟩) ?_
  go_simp
  refine wpAny_take (i := 17) (v := undef) rfl (by kernel_rfl) (by kernel_rfl) (by kernel_rfl) (fun _ _ _ h => absurd (And.left h) (by intro e; cases e)) (Or.inr ⟨by rfl, rfl⟩) ?_
  go_simp
  refine wpAny_take (i := 18) (v := ?_) rfl (by kernel_rfl) (by kernel_rfl) (by kernel_rfl) (fun _ _ _ h => absurd (And.left h) (by intro e; cases e)) (Or.inl ⟨by rfl, ?_⟩) ?_
  case refine_2 => ((intro w; go_simp) <;> with_reducible rfl)
  go_simp
  refine wpAny_take (i := 19) (v := ?_) rfl (by kernel_rfl) (by kernel_rfl) (by kernel_rfl) (fun _ _ _ h => absurd (And.left h) (by intro e; cases e)) (Or.inl ⟨by rfl, ?_⟩) ?_
  case refine_2 => ((intro w; go_simp) <;> with_reducible rfl)
  go_simp
  refine wpAny_done (by kernel_rfl) ?_ _
  go_wp2
  refine Rt.mk ?_
  go_ret
  exact ⟨rfl, HBW.out.drew⟩
end Go.Proofs.YtkkmeogehapjoaaGreatDoor
