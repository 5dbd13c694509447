/- A printer's text as a string, also where it is empty; Print of every tree. -/
import Derived.Test.YtkkmeogehapjoaaGreatDoorNI
namespace Go.Proofs.YtkkmeogehapjoaaGreatDoor
open Go.RowKit Go.Shelf
set_option maxRecDepth 100000 in
set_option maxHeartbeats 4000000 in
theorem string27_none (B b : Nat) (nd : Value) (w : World) (hBw : B ≤ w.heap.size) (h : Prn B b nd [] w) : Calls Tryz.prog 27 #[.pointer (some ⟨b, 1, none⟩)] w fun e w' => e = .returned (.string ⟨#[]⟩) ∧ Below B w w' := by
  obtain ⟨p, hB, v, hbk, hown, hne⟩ : ∃ p, PrnAt B b nd p [] w := by
    rcases h with h | h
    · exact ⟨_, h⟩
    · exact ⟨_, h⟩
  have hlt : b < w.heap.size := (Array.getElem?_eq_some_iff.1 hbk).1
  have hUS : ∀ (W : World) (q : Option Addr), (Builtin.unsafeString_ #[93, 3] 9 #[.pointer q, .int .i64 0]).run Tryz.prog W = .ok (.string .empty) W := fun W q => Lib.run_unsafeString_none W _ _ _ q
  have mixed : Tryz.prog.follows Departure.mixedOrders = true := by kernel_rfl
  rcases hown.2 with ⟨rfl, _⟩ | ⟨g, cap, cur, rfl, hbg, hg, _, _, _, _⟩
  · have c1 : w.drew.cell? ⟨b, 2, none⟩ = some (.slice none 0 0) := by
      have : w.drew.heap[b]? = some (.cells #[nd, p, .slice none 0 0] 60 (0, 0)) := hbk
      rw [Lib.cell_of_heap this]; rfl
    have hSD : (Builtin.unsafeSliceData_ #[56] 93 #[.slice none 0 0]).run Tryz.prog w.drew = .ok (.pointer none) w.drew := rfl
    clear h hown hne hbk
    go_enter Tryz.func27, Tryz.ntmps27
    go_wp2
    go_region_o
    all_goals (go_wp2; go_ret; exact ⟨rfl, Below.drew (Below.refl B w)⟩)
  · by_cases hc0 : cap = 0
    · subst hc0
      have c1 : w.drew.cell? ⟨b, 2, none⟩ = some (.slice (some ⟨g, 0, none⟩) 0 0) := by
        have : w.drew.heap[b]? = some (.cells #[nd, p, .slice (some ⟨g, 0, none⟩) 0 0] 60 (0, 0)) := hbk
        rw [Lib.cell_of_heap this]; rfl
      have hSD : (Builtin.unsafeSliceData_ #[56] 93 #[.slice (some ⟨g, 0, none⟩) 0 0]).run Tryz.prog w.drew = .ok (.pointer (some ⟨w.drew.heap.size, 0, none⟩)) (w.drew.alloc (.view ⟨g, 0, none⟩ 5)) :=
        Lib.run_unsafeSliceData_zero w.drew _ _ 5 Tryz.underlying93 ⟨g, 0, none⟩ 0 (5, cur.size) (by have hg' : w.drew.heap[g]? = some (.cells cur 5 (0, 0)) := hg; simp [World.shape?, hg'])
      have c2 : (w.drew.alloc (.view ⟨g, 0, none⟩ 5)).cell? ⟨b, 2, none⟩ = some (.slice (some ⟨g, 0, none⟩) 0 0) := by
        have : (w.drew.alloc (.view ⟨g, 0, none⟩ 5)).heap[b]? = _ := (Lib.alloc_old w.drew _ b hlt).trans hbk
        rw [Lib.cell_of_heap this]; rfl
      have c3 : (w.alloc (.view ⟨g, 0, none⟩ 5)).drew.cell? ⟨b, 2, none⟩ = some (.slice (some ⟨g, 0, none⟩) 0 0) := c2
      have c0 : w.cell? ⟨b, 2, none⟩ = some (.slice (some ⟨g, 0, none⟩) 0 0) := c1
      clear h hown hne hbk hg
      go_enter Tryz.func27, Tryz.ntmps27
      go_wp2
      go_region_o
      all_goals (go_wp2; go_ret; exact ⟨rfl, (Below.drew (Below.refl B w)).alloc hBw _⟩)
    · have c1 : w.drew.cell? ⟨b, 2, none⟩ = some (.slice (some ⟨g, 0, none⟩) 0 cap) := by
        have : w.drew.heap[b]? = some (.cells #[nd, p, .slice (some ⟨g, 0, none⟩) 0 cap] 60 (0, 0)) := hbk
        rw [Lib.cell_of_heap this]; rfl
      have hSD : (Builtin.unsafeSliceData_ #[56] 93 #[.slice (some ⟨g, 0, none⟩) 0 cap]).run Tryz.prog w.drew = .ok (.pointer (some ⟨g, 0, none⟩)) w.drew :=
        Lib.run_unsafeSliceData_row _ _ _ _ _ _ hc0
      clear h hown hne hbk hg hc0
      go_enter Tryz.func27, Tryz.ntmps27
      go_wp2
      go_region_o
      all_goals (go_wp2; go_ret; exact ⟨rfl, Below.drew (Below.refl B w)⟩)
theorem string27_any (B b : Nat) (nd : Value) (l : List UInt8) (w : World) (hBw : B ≤ w.heap.size) (h : Prn B b nd (cT l) w) : Calls Tryz.prog 27 #[.pointer (some ⟨b, 1, none⟩)] w fun e w' => e = .returned (.string ⟨l.toArray⟩) ∧ Below B w w' := by
  cases l with
  | nil => exact string27_none B b nd w hBw h
  | cons x r => exact string27 B b nd (x :: r) w h (by simp)
set_option maxRecDepth 100000 in
set_option maxHeartbeats 4000000 in
theorem print9 (l : List Nd) (ao : Option Addr) (c : Nat) (w : World) (hT : Tm w) (hl : NdA w ao c l) : Calls Tryz.prog 9 #[.agg #[.slice ao l.length c]] w fun e w' => e = .returned (.tuple #[.string ⟨(prS l).toArray⟩, .int .i64 (prE l)]) ∧ Below w.heap.size w w' := by
  have H11 : Hid (∀ W, Below w.heap.size w W → Calls Tryz.prog 11 #[.agg #[.slice ao l.length c]] W fun e w' => e = .returned (.int .i64 (prE l)) ∧ Below W.heap.size W w') := fun W hW => check11 l ao c W (hT.below hW) (hl.below hW)
  have h1 := hl.1
  have h2 := hl.2.1
  cases hr : rightB l with
  | false =>
    have e1 : prE l = 3 := by unfold prE; rw [if_neg (by simp [hr])]
    have e2 : prS l = [] := by unfold prS; rw [if_neg (by simp [hr])]
    rw [e1] at H11 ⊢
    rw [e2]
    clear e1 e2 hr hT hl
    generalize l.length = n at *
    go_enter Tryz.func9, Tryz.ntmps9
    go_wp2_with fail
    refine (H11.out _ (below_cells _ _ _)).mono ?_
    rintro e w1 ⟨rfl, hb⟩
    have HB1 : Hid (Below w.heap.size w w1) := (below_cells w _ _).trans (hb.mono (by simp))
    clear hb H11
    go_wp2
    go_ret2
    exact ⟨rfl, HB1.out⟩
  | true =>
    have h01 := right_len hr
    have h0 := h01.1
    have e1 : prE l = 0 := by unfold prE; rw [if_pos hr]
    have e2 : prS l = run [] (ntR l (l.length - 1)) := by unfold prS; rw [if_pos hr]
    have hTl := prS_len hl hr
    rw [← e2] at hTl
    rw [e1] at H11 ⊢
    have H26 : Hid (∀ W0 W g, g = W.heap.size → Below w.heap.size w W0 → St W0 W0.heap.size (.slice ao l.length c) [] W → Calls Tryz.prog 26 #[.pointer (some ⟨W0.heap.size, 0, none⟩), .slice (some ⟨g, 0, none⟩) 1 1] (W.alloc (.cells #[.iface 3 (.int .i64 (l.length - 1 : Nat))] 20)) fun e w' => e = .returned (.tuple #[]) ∧ PoS W0 W0.heap.size (.slice ao l.length c) (prS l) W w') := fun W0 W g hg hb hW => by
      subst hg
      have hlW := hl.below hb
      have hP := puts_all W0 W0.heap.size ao c l (ntR l) l.length hlW (Nat.le_refl _) (fun k hk => node_right W0 W0.heap.size ao c l hlW (hT.below hb) hr l.length k hk hk)
      have e : psT (ntR l) l [.n (l.length - 1)] = ntR l (l.length - 1) := by simp [psT, Pt.tk]
      have t := put_at hP [.n (l.length - 1)] (by simp) (fun p hp => by simp at hp; subst hp; exact ⟨by simp [Pt.rk], by show l.length - 1 < l.length; omega⟩) 1 rfl _ rfl [] W hW (by rw [e, ← e2]; exact hTl)
      rw [e, ← e2] at t
      exact t
    have H27 : Hid (∀ W0 W, St W0 W0.heap.size (.slice ao l.length c) (prS l) W → Calls Tryz.prog 27 #[.pointer (some ⟨W0.heap.size, 1, none⟩)] W fun e w' => e = .returned (.string ⟨(prS l).toArray⟩) ∧ Below W0.heap.size W w') := fun W0 W hW => string27_any _ _ _ (prS l) W hW.pr.2 hW.pr.1
    generalize prS l = T at *
    obtain ⟨n, hn⟩ : ∃ n, n = l.length := ⟨_, rfl⟩
    rw [← hn] at H11 H26 H27 h1 h0 ⊢
    obtain ⟨m, hm⟩ : ∃ m, m = n - 1 := ⟨_, rfl⟩
    rw [← hm] at H26
    have hm1 : IntKind.i64.wrap ((n : Int) - 1) = (m : Int) := by simp [IntKind.wrap, IntKind.bits, IntKind.signed]; omega
    have hm2 : (n : Int) - 1 = (m : Int) := by omega
    clear hT hl hr hTl hn hm e1 e2 h01
    go_enter Tryz.func9, Tryz.ntmps9
    go_wp2_with fail
    refine (H11.out _ (below_cells _ _ _)).mono ?_
    rintro e w1 ⟨rfl, hb⟩
    have HB1 : Hid (Below w.heap.size w w1) := (below_cells w _ _).trans (hb.mono (by simp))
    have d0 := (bcell hb).1 w.heap.size 0 (by simp)
    simp at d0
    have hlt : w.heap.size < w1.heap.size := World.block_lt_of_cell? _ _ d0
    have d1 : (w1.alloc (.cells #[.slice ao n c, .pointer none, .slice none 0 0] 60)).cell? ⟨w.heap.size, 0, none⟩ = some (.slice ao n c) := by
      rw [← d0]
      exact (bcell (below_cells w1 _ _)).1 w.heap.size 0 hlt
    clear hb H11
    have HZ : Hid (w.heap.size < w1.heap.size) := hlt
    clear hlt
    go_wp2_with fail
    refine (H26.out w1 _ _ (by simp) HB1.out (st_new w1 _)).mono ?_
    rintro e w2 ⟨rfl, hE⟩
    have HS2 : Hid (St w1 w1.heap.size (.slice ao n c) T w2) := hE.1
    clear hE H26 d0 d1
    go_wp2_with fail
    refine (H27.out w1 w2 HS2.out).mono ?_
    rintro e w3 ⟨rfl, hb⟩
    have HB3 : Hid (Below w.heap.size w w3) := HB1.out.trans ((HS2.out.bl.trans hb).mono (Nat.le_of_lt HZ.out))
    clear hb
    go_wp2
    go_ret2
    exact ⟨rfl, HB3.out⟩
end Go.Proofs.YtkkmeogehapjoaaGreatDoor
