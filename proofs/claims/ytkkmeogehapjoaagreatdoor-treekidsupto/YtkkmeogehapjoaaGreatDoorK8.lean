/- Each node but the last has one parent behind it; the part below the last is the tree: the law. -/
import Derived.Test.YtkkmeogehapjoaaGreatDoorK7
import Derived.Test.YtkkmeogehapjoaaGreatDoorY13
namespace Go.Proofs.YtkkmeogehapjoaaGreatDoor
open Go.RowKit Go.Shelf
set_option maxRecDepth 100000 in
set_option maxHeartbeats 4000000 in
theorem law7_wrong (l : List Nd) (ao : Option Addr) (c : Nat) (w : World) (hT : Tm w) (hl : NdA w ao c l) (hr : rightB l = false) : Calls Tryz.prog 7 #[.agg #[.slice ao l.length c]] w fun e w' => e = .returned (.bool true) ∧ Below w.heap.size w w' := by
  have H21 : Hid (∀ W, Below w.heap.size w W → Calls Tryz.prog 21 #[.agg #[.slice ao l.length c]] W fun e w' => Below W.heap.size W w' ∧ e = .returned (.tuple #[.slice none 0 0, .int .i64 3])) := fun W hW => parents_wrong l ao c W (hT.below hW) (hl.below hW) hr
  have H13 : Hid (∀ W, Below w.heap.size w W → Calls Tryz.prog 13 #[] W fun e w' => e = .returned (.bool true) ∧ Below W.heap.size W w') := fun W hW => small13 W (hT.below hW)
  clear hT hl hr
  generalize l.length = m at *
  go_enter Tryz.func7, Tryz.ntmps7
  go_wp2_with fail
  refine (H21.out _ (below_cells _ _ _)).mono ?_
  rintro e w1 ⟨hb, rfl⟩
  have HB1 : Hid (Below w.heap.size w w1) := (below_cells w _ _).trans (hb.mono (by simp))
  clear hb H21
  go_wp2_with fail
  refine (H13.out _ HB1.out).mono ?_
  rintro e w2 ⟨rfl, hb⟩
  have HB2 : Hid (Below w.heap.size w w2) := HB1.out.trans (hb.mono HB1.out.size)
  clear hb
  go_wp2
  go_ret
  exact ⟨rfl, HB2.out⟩
set_option maxRecDepth 100000 in
set_option maxHeartbeats 4000000 in
theorem law7_right (l : List Nd) (ao : Option Addr) (c : Nat) (w : World) (hT : Tm w) (hl : NdA w ao c l) (hr : rightB l = true) (hks : ∀ x ∈ l, x.ks.length ≤ 1048576) : Calls Tryz.prog 7 #[.agg #[.slice ao l.length c]] w fun e w' => e = .returned (.bool true) ∧ Below w.heap.size w w' := by
  obtain ⟨p, hp, hc⟩ := right_par hr
  have h01 := right_len hr
  have hpl := (parR_some hp).1
  have hup := ups_of hp hc
  have hla := par_last hp h01.1
  have H21 : Hid (∀ W, Below w.heap.size w W → Calls Tryz.prog 21 #[.agg #[.slice ao l.length c]] W fun e w' => Below W.heap.size W w' ∧ ∃ g, W.heap.size ≤ g ∧ Blk w' g p ∧ e = .returned (.tuple #[.slice (some ⟨g, 0, none⟩) l.length l.length, .int .i64 0])) := fun W hW => parents_right l ao c W (hT.below hW) (hl.below hW) hr p hp
  have H13 : Hid (∀ W, Below w.heap.size w W → Calls Tryz.prog 13 #[] W fun e w' => e = .returned (.bool true) ∧ Below W.heap.size W w') := fun W hW => small13 W (hT.below hW)
  have H16 : Hid (∀ W, Below w.heap.size w W → Calls Tryz.prog 16 #[.agg #[.slice ao l.length c], .int .i64 ((l.length - 1 : Nat) : Int)] W fun e w' => Below W.heap.size W w' ∧ ∃ qo qc Q, e = .returned (.tuple #[.agg #[.slice qo (List.length Q) qc], .int .i64 0]) ∧ NdS w' qo qc Q ∧ Q.map pu = l.map pu) := fun W hW => by
    have t := sub_right l ao c (l.length - 1) W (hT.below hW) (hl.below hW) hr (by omega) hks
    rw [sub_last hr] at t
    exact t
  have H20 : Hid (∀ W qo qc Q, Below w.heap.size w W → NdS W qo qc Q → Q.map pu = l.map pu → Calls Tryz.prog 20 #[.agg #[.slice qo (List.length Q) qc], .agg #[.slice ao l.length c]] W fun e w' => e = .returned (.bool true) ∧ Below W.heap.size W w') := fun W qo qc Q hW hQ he => tree20 Q l qo ao qc c W hQ (hl.below hW).s he
  have HP : Hid (p.length = l.length ∧ Ups p ∧ p.getD (l.length - 1) 0 = -1) := ⟨hpl, hup, hla⟩
  have h1 := h01.1
  have h2 := h01.2
  clear hT hl hr hks hp hc hpl hup hla h01
  obtain ⟨m, hm⟩ : ∃ m, m = l.length := ⟨_, rfl⟩
  rw [← hm] at H21 H16 H20 HP h1 h2 ⊢
  have c3 := cells3'
  obtain ⟨q, hq⟩ : ∃ q, q = m - 1 := ⟨_, rfl⟩
  rw [← hq] at H16 HP
  have hw1 : IntKind.i64.wrap ((m : Int) - 1) = (q : Int) := by simp [IntKind.wrap, IntKind.bits, IntKind.signed]; omega
  have hw2 : (m : Int) - 1 = (q : Int) := by omega
  have HQ0 : Hid (q = m - 1) := hq
  clear hm hq
  go_enter Tryz.func7, Tryz.ntmps7
  go_wp2_with fail
  refine (H21.out _ (below_cells _ _ _)).mono ?_
  rintro e w1 ⟨hb, g, hg, hbk, rfl⟩
  have HB1 : Hid (Below w.heap.size w w1) := (below_cells w _ _).trans (hb.mono (by simp))
  have d0 := (bcell hb).1 w.heap.size 0 (by simp)
  simp at d0
  have HK : Hid (Blk w1 g p) := hbk
  clear hb hbk hg H21
  go_wp2
  go_loop [5, 6, 30] (fun _ _ i => ∃ j : Nat, j ≤ m ∧ i = .int .i64 j) (fun _ _ i => m - (intOf i).toNat)
  case atStart => exact ⟨0, Nat.zero_le _, rfl⟩
  case round =>
    obtain ⟨j, hj, rfl⟩ := hrel
    by_cases hlt : j < m
    · obtain ⟨y, hy⟩ : ∃ y, p[j]? = some y := ⟨_, List.getElem?_eq_getElem (by have := HP.out.1; omega)⟩
      have e0 := HK.out.cell hy
      have hgd : p.getD j 0 = y := by simp [List.getD, hy]
      by_cases hla : j = q
      · subst hla
        have hy1 : y = -1 := by
          rw [← hgd]
          exact HP.out.2.2
        subst hy1
        clear hy hgd
        go_wp2
        exact ⟨⟨j + 1, by omega, by go_num⟩, by simp [intOf]; omega⟩
      · have hy1 := HP.out.2.1 j (by have := HP.out.1; have := HQ0.out; omega)
        rw [hgd] at hy1
        obtain ⟨z, rfl⟩ : ∃ z : Nat, y = z := ⟨y.toNat, by omega⟩
        have hz1 : ¬ (z : Int) ≤ (j : Int) := by omega
        have hz2 : (((z : Nat) : Int) == -1) = false := by rw [beq_eq_false_iff_ne]; omega
        have hz3 : ¬ (z : Int) = -1 := by omega
        have hjj : ((j : Int) == (q : Int)) = false := by rw [beq_eq_false_iff_ne]; omega
        have hjj2 : ¬ (j : Int) = (q : Int) := by omega
        clear hy hgd hy1
        go_wp2
        exact ⟨⟨j + 1, by omega, by go_num⟩, by simp [intOf]; omega⟩
    · obtain rfl : j = m := by omega
      go_wp2_with fail
      refine (H16.out _ HB1.out).mono ?_
      rintro e w2 ⟨hb, qo, qc, Q, rfl, hQ, he⟩
      have HB2 : Hid (Below w.heap.size w w2) := HB1.out.trans (hb.mono HB1.out.size)
      have f0 := ((bcell hb).1 w.heap.size 0 (World.block_lt_of_cell? _ _ d0)).trans d0
      have hz : w.heap.size < w2.heap.size := World.block_lt_of_cell? _ _ f0
      have HQ : Hid (NdS w2 qo qc Q ∧ Q.map pu = l.map pu) := ⟨hQ, he⟩
      clear hb hQ he H16 d0
      go_wp2_with fail
      refine (H20.out _ qo qc Q (HB2.out.alloc HB2.out.size _) (HQ.out.1.below (below_cells w2 _ _)) HQ.out.2).mono ?_
      rintro e w3 ⟨rfl, hb⟩
      have HB3 : Hid (Below w.heap.size w w3) := (HB2.out.alloc HB2.out.size _).trans (hb.mono (HB2.out.alloc HB2.out.size _).size)
      clear hb H20 f0
      go_wp2_with fail
      refine (H13.out _ HB3.out).mono ?_
      rintro e w4 ⟨rfl, hb⟩
      have HB4 : Hid (Below w.heap.size w w4) := HB3.out.trans (hb.mono HB3.out.size)
      clear hb
      go_wp2
      go_ret
      exact ⟨rfl, HB4.out⟩
theorem law7 (l : List Nd) (ao : Option Addr) (c : Nat) (w : World) (hT : Tm w) (hl : NdA w ao c l) (hks : ∀ x ∈ l, x.ks.length ≤ 1048576) : Calls Tryz.prog 7 #[.agg #[.slice ao l.length c]] w fun e w' => e = .returned (.bool true) ∧ Below w.heap.size w w' := by
  cases hr : rightB l with
  | true => exact law7_right l ao c w hT hl hr hks
  | false => exact law7_wrong l ao c w hT hl hr
end Go.Proofs.YtkkmeogehapjoaaGreatDoor
