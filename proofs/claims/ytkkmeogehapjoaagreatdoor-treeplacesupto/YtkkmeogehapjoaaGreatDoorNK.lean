/- Places moved: the law. -/
import Derived.Test.YtkkmeogehapjoaaGreatDoorNJ
import Derived.Test.YtkkmeogehapjoaaGreatDoorNG
import Derived.Test.YtkkmeogehapjoaaGreatDoorZ2
import Derived.Test.YtkkmeogehapjoaaGreatDoorY13
namespace Go.Proofs.YtkkmeogehapjoaaGreatDoor
open Go.RowKit Go.Shelf
set_option maxRecDepth 100000 in
set_option maxHeartbeats 4000000 in
theorem law8_out (l : List Nd) (ao : Option Addr) (c : Nat) (d : Int) (w : World) (hT : Tm w) (hd : d < 0 ∨ 1048576 < d) : Calls Tryz.prog 8 #[.agg #[.slice ao l.length c], .int .i64 d] w fun e w' => e = .returned (.bool true) ∧ Below w.heap.size w w' := by
  have H13 : Hid (∀ W, Below w.heap.size w W → Calls Tryz.prog 13 #[] W fun e w' => e = .returned (.bool true) ∧ Below W.heap.size W w') := fun W hW => small13 W (hT.below hW)
  clear hT
  generalize l.length = n at *
  by_cases h0 : d < 0
  · clear hd
    go_enter Tryz.func8, Tryz.ntmps8
    go_wp2_with fail
    refine (H13.out _ (below_cells _ _ _)).mono ?_
    rintro e w1 ⟨rfl, hb⟩
    have HB : Hid (Below w.heap.size w w1) := (below_cells w _ _).trans (hb.mono (by simp))
    clear hb
    go_wp2
    go_ret
    exact ⟨rfl, HB.out⟩
  · have h1 : 1048576 < d := by omega
    clear hd
    go_enter Tryz.func8, Tryz.ntmps8
    go_wp2_with fail
    refine (H13.out _ (below_cells _ _ _)).mono ?_
    rintro e w1 ⟨rfl, hb⟩
    have HB : Hid (Below w.heap.size w w1) := (below_cells w _ _).trans (hb.mono (by simp))
    clear hb
    go_wp2
    go_ret
    exact ⟨rfl, HB.out⟩
set_option maxRecDepth 100000 in
set_option maxHeartbeats 4000000 in
theorem law8_in (l : List Nd) (ao : Option Addr) (c : Nat) (d : Int) (w : World) (hT : Tm w) (hl : NdA w ao c l) (hn : l.length ≤ 1048576) (h0 : 0 ≤ d) (h1 : d ≤ 1048576) : Calls Tryz.prog 8 #[.agg #[.slice ao l.length c], .int .i64 d] w fun e w' => e = .returned (.bool true) ∧ Below w.heap.size w w' := by
  have H13 : Hid (∀ W, Below w.heap.size w W → Calls Tryz.prog 13 #[] W fun e w' => e = .returned (.bool true) ∧ Below W.heap.size W w') := fun W hW => small13 W (hT.below hW)
  obtain ⟨i5, hi, hz0, hz1, hz2⟩ := info_parts info53
  have HI53 : Hid (Tryz.prog.info? 53 = some i5 ∧ i5.zero = some (.agg #[.int .i64 0, .string ⟨#[]⟩, .int .i64 0, .slice none 0 0, .int .i64 0, .int .i64 0]) ∧ i5.size = 6 ∧ i5.bytes = 72) := ⟨hi, hz0, hz1, hz2⟩
  clear hi hz0 hz1 hz2
  have HL : Hid (NdA w ao c l) := hl
  have HTm : Hid (Tm w) := hT
  have hc1 := hl.1
  have hc2 := hl.2.1
  obtain ⟨n, hnl⟩ : ∃ n, n = l.length := ⟨_, rfl⟩
  have HN : Hid (n = l.length) := hnl
  rw [← hnl] at hc1 hn ⊢
  clear hT hl hnl
  have c53 := cells53
  have h0' : ¬ d < 0 := by omega
  have h1' : ¬ 1048576 < d := by omega
  go_enter Tryz.func8, Tryz.ntmps8
  go_wp2
  go_loopw [22] (fun i wx => ∃ (k : Nat) (v : Value), k ≤ n ∧ i = .int .i64 k ∧ PlS w (.slice ao n c) ((l.take k).map (mv d)) v wx ∧ ∀ x ∈ l.take k, x.fr ≤ 1099511627776 ∧ x.en ≤ 1099511627776) (fun i _ => n - (intOf i).toNat)
  case atStart =>
    refine ⟨0, .slice none 0 0, Nat.zero_le _, rfl, ⟨((Below.refl _ w).alloc (Nat.le_refl _) _).alloc (by simp) _, ?_, ?_, World.ownsRow_nil _ _ _ _⟩, fun x hx => by simp at hx⟩
    · exact (Lib.alloc_old _ _ _ (by simp)).trans (Go.heap_alloc_new w _)
    · have t := Go.heap_alloc_new (w.alloc (.cells #[.slice ao n c] 24)) (.cells #[.slice none 0 0] 24)
      rw [show (w.alloc (.cells #[.slice ao n c] 24)).heap.size = w.heap.size + 1 by simp] at t
      exact t
  case round =>
    obtain ⟨k, v, hk, rfl, hS, hF⟩ := hrel
    by_cases hlt : k < n
    · obtain ⟨x, hx⟩ : ∃ x, l[k]? = some x := ⟨_, List.getElem?_eq_getElem (by have := HN.out; omega)⟩
      obtain ⟨gn, on, he, hnd⟩ := HL.out.2.2.2 (by have := HN.out; omega)
      obtain ⟨y0, y1, y2, y3, y4, y5⟩ := nd_cells hnd hx
      have hg : gn < w.heap.size := World.block_lt_of_cell? _ _ y0
      have a0 := ((bcell hS.bl).1 gn _ hg).trans y0
      have a1 := ((bcell hS.bl).1 gn _ hg).trans y1
      have a2 := ((bcell hS.bl).1 gn _ hg).trans y2
      have a3 := ((bcell hS.bl).1 gn _ hg).trans y3
      have a4 := ((bcell hS.bl).1 gn _ hg).trans y4
      have a5 := ((bcell hS.bl).1 gn _ hg).trans y5
      have htk : l.take (k + 1) = l.take k ++ [x] := by rw [List.take_add_one, hx]; rfl
      have HX : Hid (l.take (k + 1) = l.take k ++ [x]) := htk
      have HF : Hid (∀ x ∈ l.take k, x.fr ≤ 1099511627776 ∧ x.en ≤ 1099511627776) := hF
      have HS : Hid (PlS w (.slice ao n c) ((l.take k).map (mv d)) v wr) := hS
      subst he
      clear hnd hx y0 y1 y2 y3 y4 y5 htk hF hS hg
      by_cases hen : 1099511627776 < x.en
      · clear HX
        obtain ⟨K, T, V, ka, kc, ks, F, E⟩ := x
        simp only at *
        generalize ks.length = mk at *
        go_wp2_with fail
        refine (H13.out _ (HS.out.bl.alloc HS.out.bl.size _)).mono ?_
        rintro e w1 ⟨rfl, hb⟩
        have HB : Hid (Below w.heap.size w w1) := (HS.out.bl.alloc HS.out.bl.size _).trans (hb.mono (HS.out.bl.alloc HS.out.bl.size _).size)
        clear hb
        go_wp2
        go_ret
        exact ⟨rfl, HB.out⟩
      by_cases hfr : 1099511627776 < x.fr
      · clear HX
        obtain ⟨K, T, V, ka, kc, ks, F, E⟩ := x
        simp only at *
        generalize ks.length = mk at *
        go_wp2_with fail
        refine (H13.out _ (HS.out.bl.alloc HS.out.bl.size _)).mono ?_
        rintro e w1 ⟨rfl, hb⟩
        have HB : Hid (Below w.heap.size w w1) := (HS.out.bl.alloc HS.out.bl.size _).trans (hb.mono (HS.out.bl.alloc HS.out.bl.size _).size)
        clear hb
        go_wp2
        go_ret
        exact ⟨rfl, HB.out⟩
      have HFE : Hid (x.fr ≤ 1099511627776 ∧ x.en ≤ 1099511627776) := ⟨by omega, by omega⟩
      obtain ⟨qo, qc, hv⟩ := HS.out.slice
      rw [List.length_map] at hv
      obtain ⟨m, hm⟩ : ∃ m, m = (l.take k).length := ⟨_, rfl⟩
      have hmk : m ≤ 1048576 := by rw [hm, List.length_take]; omega
      rw [← hm] at hv
      subst hv
      have u0 : wr.cell? ⟨w.heap.size + 1, 0, none⟩ = some (.slice qo m qc) := Lib.cell_of_heap HS.out.ub 0
      have hzu : w.heap.size + 1 < wr.heap.size := World.block_lt_of_cell? _ _ u0
      have HM : Hid (m = (l.take k).length) := hm
      clear hm
      obtain ⟨K, T, V, ka, kc, ks, F, E⟩ := x
      simp only at *
      obtain ⟨mk, hmk2⟩ : ∃ mk, mk = ks.length := ⟨_, rfl⟩
      rw [← hmk2] at a3
      have HMK : Hid (mk = ks.length) := hmk2
      clear hmk2
      obtain ⟨F', hF1⟩ : ∃ F', IntKind.i64.wrap (F + d) = F' := ⟨_, rfl⟩
      obtain ⟨E', hE1⟩ : ∃ E', IntKind.i64.wrap (E + d) = E' := ⟨_, rfl⟩
      have hF2 : wrap64 (F + d) = F' := (IntWalk.i64_left (F + d)).symm.trans hF1
      have hE2 : wrap64 (E + d) = E' := (IntWalk.i64_left (E + d)).symm.trans hE1
      have HMV : Hid (mv d ⟨K, T, V, ka, kc, ks, F, E⟩ = ⟨K, T, V, ka, kc, ks, F', E'⟩) := by
        show (⟨K, T, V, ka, kc, ks, IntKind.i64.wrap (F + d), IntKind.i64.wrap (E + d)⟩ : Nd) = _
        rw [hF1, hE1]
      have HBL : Hid (∀ o o', Below wr.heap.size wr ((wr.alloc o).alloc o')) := fun o o' => ((Below.refl _ wr).alloc (Nat.le_refl _) o).alloc (by simp) o'
      have HOW : Hid (∀ o o', ((wr.alloc o).alloc o').ownsRow w.heap.size 53 6 (.slice qo m qc) m (((l.take k).map (mv d)).flatMap ndc)) := fun o o' => by
        have t := (HS.out.later (HBL.out o o')).ow
        rw [List.length_map, ← HM.out] at t
        exact t
      have hsw : ∀ o, (wr.alloc o).heap.size = wr.heap.size + 1 := fun o => by simp
      have HZ : Hid (w.heap.size ≤ wr.heap.size) := HS.out.bl.size
      go_wp2_with (at_builtin; refine wpList_append_own _ rfl _ _ 22 rfl w.heap.size 53 i5 (.agg #[.int .i64 0, .string ⟨#[]⟩, .int .i64 0, .slice none 0 0, .int .i64 0, .int .i64 0]) 6 72 Tryz.underlying22 HI53.out.1 HI53.out.2.1 HI53.out.2.2.1 HI53.out.2.2.2 rfl (by decide) _ _ _ rfl (HOW.out _ _) ⟨wr.heap.size + 1, 0, none⟩ 1 1 [.int .i64 K, .string T, .int .i64 V, .slice ka mk kc, .int .i64 F', .int .i64 E'] rfl (by rfl) (by intro q u hq; have t := six_row (W := wr.alloc (.cells #[.int .i64 K, .string T, .int .i64 V, .slice ka mk kc, .int .i64 F', .int .i64 E'] 53)) (t := 53) hq; rw [hsw] at t; exact t) (by simp [Value.oneCell']) (by unfold maxLen; omega) (by omega) (by have := HZ.out; simp; omega) ?_; intro v6 w6 hown6 hgrow6 _; have hmid := HS.out.mid (HBL.out _ _) hgrow6; have HS6 : Hid (PlS w (.slice (some ⟨gn, on, none⟩) n c) ((l.take k).map (mv d) ++ [⟨K, T, V, ka, kc, ks, F', E'⟩]) v6 (w6.setCell ⟨w.heap.size + 1, 0, none⟩ v6)) := HS.out.push (HBL.out _ _) ⟨K, T, V, ka, kc, ks, F', E'⟩ hgrow6 (by rw [List.length_map, ← HM.out]; have t := hown6; rw [HMK.out] at t; exact t); obtain ⟨a6, c6, hv6⟩ := own_slice6 hown6; subst hv6; have z0 : w6.cell? ⟨w.heap.size + 1, 0, none⟩ = some (.slice qo m qc) := Lib.cell_of_heap hmid 0; have z1 : w6.frozen? ⟨w.heap.size + 1, 0, none⟩ = false := Lib.frozen_of_heap hmid 0; clear hown6 hgrow6 hmid)
      refine ⟨⟨k + 1, .slice a6 (m + 1) c6, by omega, by go_num, ?_, fun y hy => ?_⟩, by simp [intOf]; omega⟩
      · rw [HX.out, List.map_append, List.map_cons, List.map_nil, HMV.out]
        exact HS6.out
      · rw [HX.out] at hy
        rcases List.mem_append.1 hy with hy | hy
        · exact HF.out y hy
        · rw [List.mem_singleton] at hy
          subst hy
          exact HFE.out
    · obtain rfl : k = n := by omega
      have htk : l.take k = l := List.take_of_length_le (by have := HN.out; omega)
      rw [htk] at hS hF
      have HS : Hid (PlS w (.slice ao k c) (l.map (mv d)) v wr) := hS
      have HF : Hid (∀ x ∈ l, x.fr ≤ 1099511627776 ∧ x.en ≤ 1099511627776) := hF
      obtain ⟨qo, qc, hv, hnd⟩ := hS.nda HL.out
      rw [List.length_map, ← HN.out] at hv
      subst hv
      have t0 : wr.cell? ⟨w.heap.size, 0, none⟩ = some (.slice ao k c) := Lib.cell_of_heap hS.tb 0
      have HNU : Hid (NdA wr qo qc (l.map (mv d))) := hnd
      clear htk hS hF hnd
      have H9t : Hid (∀ W, Below w.heap.size w W → Calls Tryz.prog 9 #[.agg #[.slice ao k c]] W fun e w' => e = .returned (.tuple #[.string ⟨(prS l).toArray⟩, .int .i64 (prE l)]) ∧ Below W.heap.size W w') := fun W hW => by
        have t := print9 l ao c W (HTm.out.below hW) (HL.out.below hW)
        rw [← HN.out] at t
        exact t
      have H9u : Hid (∀ W, Below wr.heap.size wr W → Calls Tryz.prog 9 #[.agg #[.slice qo k qc]] W fun e w' => e = .returned (.tuple #[.string ⟨(prS (l.map (mv d))).toArray⟩, .int .i64 (prE (l.map (mv d)))]) ∧ Below W.heap.size W w') := fun W hW => by
        have t := print9 (l.map (mv d)) qo qc W ((HTm.out.below HS.out.bl).below hW) (HNU.out.below hW)
        rw [List.length_map, ← HN.out] at t
        exact t
      have H14 : Hid (∀ W, Below wr.heap.size wr W → Calls Tryz.prog 14 #[.agg #[.slice ao k c], .agg #[.slice qo k qc]] W fun e w' => e = .returned (.bool true) ∧ Below W.heap.size W w') := fun W hW => by
        have t := same14 l (l.map (mv d)) ao qo c qc W ((HL.out.below HS.out.bl).below hW).s (HNU.out.below hW).s
        rw [List.length_map, ← HN.out, nsEq_mv] at t
        exact t
      have u0 : wr.cell? ⟨w.heap.size + 1, 0, none⟩ = some (.slice qo k qc) := Lib.cell_of_heap HS.out.ub 0
      have hzu : w.heap.size + 1 < wr.heap.size := World.block_lt_of_cell? _ _ u0
      have hzt : w.heap.size < wr.heap.size := by omega
      have HBW : Hid (Below w.heap.size w wr) := HS.out.bl
      have HZU : Hid (w.heap.size + 1 < wr.heap.size ∧ w.heap.size < wr.heap.size) := ⟨hzu, hzt⟩
      have HRE : Hid ((prE l = 3 ∧ prS l = []) ∨ (prE l = 0 ∧ prE (l.map (mv d)) = 0 ∧ prS (l.map (mv d)) = prS l)) := by
        cases hr : rightB l with
        | false => exact .inl ⟨by unfold prE; rw [if_neg (by simp [hr])], by unfold prS; rw [if_neg (by simp [hr])]⟩
        | true =>
          have hr2 := right_mv hr h0 h1 HF.out
          exact .inr ⟨by unfold prE; rw [if_pos hr], by unfold prE; rw [if_pos hr2], prS_mv hr hr2⟩
      clear hzu hzt HS HF HNU HL HTm HN
      rcases HRE.out with ⟨e1, e2⟩ | ⟨e1, e2, e3⟩
      · rw [e1, e2] at H9t
        clear HRE e1 e2 H14
        generalize (prS (l.map (mv d))).toArray = B at *
        generalize prE (l.map (mv d)) = f at *
        go_wp2_with fail
        refine (H9t.out _ HBW.out).mono ?_
        rintro e w1 ⟨rfl, hb⟩
        have u1 := ((bcell hb).1 (w.heap.size + 1) 0 HZU.out.1).trans u0
        have HB1 : Hid (Below wr.heap.size wr w1) := hb
        clear hb u0 t0 H9t
        go_wp2_with fail
        refine (H9u.out _ HB1.out).mono ?_
        rintro e w2 ⟨rfl, hb⟩
        have HB2 : Hid (Below w.heap.size w w2) := (HBW.out.trans (HB1.out.mono HBW.out.size)).trans (hb.mono (HBW.out.trans (HB1.out.mono HBW.out.size)).size)
        clear hb u1 H9u HB1
        go_wp2_with fail
        refine (H13.out _ HB2.out).mono ?_
        rintro e w3 ⟨rfl, hb⟩
        have HB3 : Hid (Below w.heap.size w w3) := HB2.out.trans (hb.mono HB2.out.size)
        clear hb
        go_wp2
        go_ret
        exact ⟨rfl, HB3.out⟩
      · rw [e1] at H9t
        rw [e2, e3] at H9u
        clear HRE e1 e2 e3
        generalize (prS l).toArray = B at *
        go_wp2_with fail
        refine (H9t.out _ HBW.out).mono ?_
        rintro e w1 ⟨rfl, hb⟩
        have u1 := ((bcell hb).1 (w.heap.size + 1) 0 HZU.out.1).trans u0
        have t1 := ((bcell hb).1 w.heap.size 0 HZU.out.2).trans t0
        have HB1 : Hid (Below wr.heap.size wr w1) := hb
        clear hb u0 t0 H9t
        go_wp2_with fail
        refine (H9u.out _ HB1.out).mono ?_
        rintro e w2 ⟨rfl, hb⟩
        have u2 := ((bcell hb).1 (w.heap.size + 1) 0 (Nat.lt_of_lt_of_le HZU.out.1 HB1.out.size)).trans u1
        have t2 := ((bcell hb).1 w.heap.size 0 (Nat.lt_of_lt_of_le HZU.out.2 HB1.out.size)).trans t1
        have HB2 : Hid (Below wr.heap.size wr w2) := HB1.out.trans (hb.mono HB1.out.size)
        clear hb u1 t1 H9u HB1
        go_wp2_with fail
        refine (H14.out _ HB2.out).mono ?_
        rintro e w3 ⟨rfl, hb⟩
        have HB3 : Hid (Below w.heap.size w w3) := (HBW.out.trans (HB2.out.mono HBW.out.size)).trans (hb.mono (HBW.out.trans (HB2.out.mono HBW.out.size)).size)
        clear hb u2 t2 H14 HB2
        go_wp2_with fail
        refine (H13.out _ HB3.out).mono ?_
        rintro e w4 ⟨rfl, hb⟩
        have HB4 : Hid (Below w.heap.size w w4) := HB3.out.trans (hb.mono HB3.out.size)
        clear hb
        go_wp2
        go_ret
        exact ⟨rfl, HB4.out⟩
theorem law8 (l : List Nd) (ao : Option Addr) (c : Nat) (d : Int) (w : World) (hT : Tm w) (hl : NdA w ao c l) (hn : l.length ≤ 1048576) : Calls Tryz.prog 8 #[.agg #[.slice ao l.length c], .int .i64 d] w fun e w' => e = .returned (.bool true) ∧ Below w.heap.size w w' := by
  by_cases h : 0 ≤ d ∧ d ≤ 1048576
  · exact law8_in l ao c d w hT hl hn h.1 h.2
  · exact law8_out l ao c d w hT (by omega)
end Go.Proofs.YtkkmeogehapjoaaGreatDoor
