/- Check, Depth; Print of a tree that is right. -/
import Derived.Test.YtkkmeogehapjoaaGreatDoorY9
namespace Go.Proofs.YtkkmeogehapjoaaGreatDoor
open Go.RowKit Go.Shelf
set_option maxRecDepth 100000 in
set_option maxHeartbeats 4000000 in
theorem check11 (l : List Nd) (ao : Option Addr) (c : Nat) (w : World) (hT : Tm w) (hl : NdA w ao c l) : Calls Tryz.prog 11 #[.agg #[.slice ao l.length c]] w fun e w' => e = .returned (.int .i64 (if rightB l = true then 0 else 3)) ∧ Below w.heap.size w w' := by
  have H30 : Hid (∀ W, Below w.heap.size w W → Calls Tryz.prog 30 #[.slice ao l.length c] W fun e w' => e = .returned (.bool (rightB l)) ∧ Below W.heap.size W w') := fun W hW => right30 l ao c W (hT.below hW) (hl.below hW)
  have h1 := hl.1
  have h2 := hl.2.1
  clear hT hl
  generalize l.length = n at *
  cases hr : rightB l with
  | true =>
    rw [hr] at H30
    rw [if_pos rfl]
    clear hr
    go_enter Tryz.func11, Tryz.ntmps11
    go_wp2_with fail
    refine (H30.out _ (below_cells _ _ _)).mono ?_
    rintro e w1 ⟨rfl, hb⟩
    have HB : Hid (Below w.heap.size w w1) := (below_cells w _ _).trans (hb.mono (by simp))
    clear hb
    go_wp2
    go_ret
    exact ⟨rfl, HB.out⟩
  | false =>
    rw [hr] at H30
    rw [if_neg (by simp)]
    clear hr
    go_enter Tryz.func11, Tryz.ntmps11
    go_wp2_with fail
    refine (H30.out _ (below_cells _ _ _)).mono ?_
    rintro e w1 ⟨rfl, hb⟩
    have HB : Hid (Below w.heap.size w w1) := (below_cells w _ _).trans (hb.mono (by simp))
    clear hb
    go_wp2
    go_ret
    exact ⟨rfl, HB.out⟩
theorem st_new (w : World) (nd : Value) : St w w.heap.size nd [] (w.alloc (.cells #[nd, .pointer none, .slice none 0 0] 60)) :=
  ⟨⟨.inl ⟨Nat.le_refl _, .slice none 0 0, Go.heap_alloc_new w _, World.ownsRow_nil _ _ _ _, by simp [Value.ownBlock]⟩, by simp⟩, below_cells w _ _⟩
set_option maxRecDepth 100000 in
set_option maxHeartbeats 4000000 in
theorem print_right (l : List Nd) (ao : Option Addr) (c : Nat) (w : World) (hT : Tm w) (hl : NdA w ao c l) (hr : rightB l = true) (h0 : 1 ≤ l.length) (nt : Nat → Tks) (hN : ∀ w0 b, NdA w0 ao c l → ∀ k, k < l.length → NodeC w0 b (.slice ao l.length c) l nt k) (T : List UInt8) (hTx : run [] (nt (l.length - 1)) = T) (hT0 : T ≠ []) (hTl : T.length ≤ 140737488355328) : Calls Tryz.prog 9 #[.agg #[.slice ao l.length c]] w fun e w' => e = .returned (.tuple #[.string ⟨T.toArray⟩, .int .i64 0]) ∧ Below w.heap.size w w' := by
  have H11 : Hid (∀ W, Below w.heap.size w W → Calls Tryz.prog 11 #[.agg #[.slice ao l.length c]] W fun e w' => e = .returned (.int .i64 0) ∧ Below W.heap.size W w') := fun W hW => by
    have t := check11 l ao c W (hT.below hW) (hl.below hW)
    rw [if_pos hr] at t
    exact t
  have H26 : Hid (∀ W0 W g, g = W.heap.size → Below w.heap.size w W0 → St W0 W0.heap.size (.slice ao l.length c) [] W → Calls Tryz.prog 26 #[.pointer (some ⟨W0.heap.size, 0, none⟩), .slice (some ⟨g, 0, none⟩) 1 1] (W.alloc (.cells #[.iface 3 (.int .i64 ((l.length - 1 : Nat) : Int))] 20)) fun e w' => e = .returned (.tuple #[]) ∧ PoS W0 W0.heap.size (.slice ao l.length c) T W w') := fun W0 W g hg hb hW => by
    subst hg
    have hlW := hl.below hb
    have hP := puts_all W0 W0.heap.size ao c l nt l.length hlW (Nat.le_refl _) (hN W0 W0.heap.size hlW)
    have e : psT nt l [.n (l.length - 1)] = nt (l.length - 1) := by simp [psT, Pt.tk]
    have t := put_at hP [.n (l.length - 1)] (by simp) (fun p hp => by simp at hp; subst hp; exact ⟨by simp [Pt.rk], by show l.length - 1 < l.length; omega⟩) 1 rfl _ rfl [] W hW (by rw [e, hTx]; exact hTl)
    rw [e, hTx] at t
    exact t
  have H27 : Hid (∀ W0 W, St W0 W0.heap.size (.slice ao l.length c) T W → Calls Tryz.prog 27 #[.pointer (some ⟨W0.heap.size, 1, none⟩)] W fun e w' => e = .returned (.string ⟨T.toArray⟩) ∧ Below W0.heap.size W w') := fun W0 W hW => string27 _ _ _ T W hW.pr.1 hT0
  have h1 := hl.1
  have h2 := hl.2.1
  obtain ⟨n, hn⟩ : ∃ n, n = l.length := ⟨_, rfl⟩
  rw [← hn] at H11 H26 H27 h1 h0 ⊢
  obtain ⟨m, hm⟩ : ∃ m, m = n - 1 := ⟨_, rfl⟩
  rw [← hm] at H26
  have hm1 : IntKind.i64.wrap ((n : Int) - 1) = (m : Int) := by simp [IntKind.wrap, IntKind.bits, IntKind.signed]; omega
  have hm2 : (n : Int) - 1 = (m : Int) := by omega
  clear hT hl hr hN hTx hT0 hTl hn hm
  go_enter Tryz.func9, Tryz.ntmps9
  go_wp2_with fail
  refine (H11.out _ (below_cells _ _ _)).mono ?_
  rintro e w1 ⟨rfl, hb⟩
  have HB1 : Hid (Below w.heap.size w w1) := (below_cells w _ _).trans (hb.mono (by simp))
  have d0 := (bcell hb).1 w.heap.size 0 (by simp)
  simp at d0
  have hlt : w.heap.size < w1.heap.size := World.block_lt_of_cell? _ _ d0
  have d1 : (w1.alloc (.cells #[.slice ao n c, .pointer none, .slice none 0 0] 60)).cell? ⟨w.heap.size, 0, none⟩ = some (.slice ao n c) := by
    rw [← d0]
    exact (bcell (below_cells w1 _ _)).1 w.heap.size 0 hlt
  clear hb H11
  have HZ : Hid (w.heap.size < w1.heap.size) := hlt
  clear hlt
  go_wp2_with fail
  refine (H26.out w1 _ _ (by simp) HB1.out (st_new w1 _)).mono ?_
  rintro e w2 ⟨rfl, hE⟩
  have HS2 : Hid (St w1 w1.heap.size (.slice ao n c) T w2) := hE.1
  clear hE H26 d0 d1
  go_wp2_with fail
  refine (H27.out w1 w2 HS2.out).mono ?_
  rintro e w3 ⟨rfl, hb⟩
  have HB3 : Hid (Below w.heap.size w w3) := HB1.out.trans ((HS2.out.bl.trans hb).mono (Nat.le_of_lt HZ.out))
  clear hb
  go_wp2
  go_ret2
  exact ⟨rfl, HB3.out⟩
set_option maxRecDepth 100000 in
set_option maxHeartbeats 4000000 in
theorem depth_right (l : List Nd) (ao : Option Addr) (c : Nat) (w : World) (hT : Tm w) (hl : NdA w ao c l) (hr : rightB l = true) (p : List Int) (hp : parR l = some p) : Calls Tryz.prog 23 #[.agg #[.slice ao l.length c]] w fun e w' => e = .returned (.tuple #[.int .i64 (Lib.maxOf (depR p)), .int .i64 0]) ∧ Below w.heap.size w w' := by
  have h01 : 1 ≤ l.length ∧ l.length ≤ 20000 := by
    unfold rightB at hr
    split at hr
    · cases hr
    · omega
  have hcn : (p.take (l.length - 1)).contains (-1) = false := by
    unfold rightB at hr
    split at hr
    · cases hr
    · rw [hp] at hr
      simp only [Bool.and_eq_true] at hr
      simpa using hr.1
  have H11 : Hid (∀ W, Below w.heap.size w W → Calls Tryz.prog 11 #[.agg #[.slice ao l.length c]] W fun e w' => e = .returned (.int .i64 0) ∧ Below W.heap.size W w') := fun W hW => by
    have t := check11 l ao c W (hT.below hW) (hl.below hW)
    rw [if_pos hr] at t
    exact t
  have H41 : Hid (∀ W, Below w.heap.size w W → Calls Tryz.prog 41 #[.slice ao l.length c] W fun e w' => Below W.heap.size W w' ∧ ∃ g, W.heap.size ≤ g ∧ Blk w' g p ∧ e = .returned (.tuple #[.slice (some ⟨g, 0, none⟩) l.length l.length, .bool true])) := fun W hW => by
    refine (parents41 l ao c W (hl.below hW) h01.1 h01.2).mono ?_
    rintro e w' ⟨h1, h2⟩
    rw [hp] at h2
    obtain ⟨g, g1, g2, g3, g4⟩ := h2
    rw [hcn] at g4
    exact ⟨h1, g, g1, g3, g4⟩
  have H43 : Hid (∀ W g, Blk W g p → Calls Tryz.prog 43 #[.slice (some ⟨g, 0, none⟩) l.length l.length] W fun e w' => e = .returned (.int .i64 (Lib.maxOf (depR p))) ∧ Below W.heap.size W w') := fun W g hg => depth43 p g l.length W hg (parR_some hp).1 h01.1 h01.2 (ups_of hp hcn)
  have h1 := hl.1
  have h2 := hl.2.1
  have h3 := h01.2
  generalize l.length = n at *
  generalize Lib.maxOf (depR p) = D at *
  clear hT hl hr hp hcn h01
  go_enter Tryz.func23, Tryz.ntmps23
  go_wp2_with fail
  refine (H11.out _ (below_cells _ _ _)).mono ?_
  rintro e w1 ⟨rfl, hb⟩
  have HB1 : Hid (Below w.heap.size w w1) := (below_cells w _ _).trans (hb.mono (by simp))
  have d0 := (bcell hb).1 w.heap.size 0 (by simp)
  simp at d0
  clear hb H11
  go_wp2_with fail
  refine (H41.out _ HB1.out).mono ?_
  rintro e w2 ⟨hb, g, hg, hbk, rfl⟩
  have HB2 : Hid (Below w.heap.size w w2) := HB1.out.trans (hb.mono HB1.out.size)
  have HK : Hid (Blk w2 g p) := hbk
  clear hb hbk hg d0
  go_wp2_with fail
  refine (H43.out _ _ HK.out).mono ?_
  rintro e w3 ⟨rfl, hb⟩
  have HB3 : Hid (Below w.heap.size w w3) := HB2.out.trans (hb.mono HB2.out.size)
  clear hb
  go_wp2
  go_ret2
  exact ⟨rfl, HB3.out⟩
end Go.Proofs.YtkkmeogehapjoaaGreatDoor
