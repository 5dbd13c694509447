/- Whether a tree is right: the document's own walk. -/
import Derived.Test.YtkkmeogehapjoaaGreatDoorRX
namespace Go.Proofs.YtkkmeogehapjoaaGreatDoor
open Go.RowKit Go.Shelf
set_option maxRecDepth 100000 in
set_option maxHeartbeats 4000000 in
theorem right28 (l : List Nd) (ao : Option Addr) (c : Nat) (w : World) (hl : NdA w ao c l) : Calls Tryz.prog 28 #[.agg #[.slice ao l.length c]] w fun e w' => e = .returned (.bool (rightB l)) ∧ Below w.heap.size w w' := by
  have HB0 : Hid (∀ o, Below w.heap.size w (w.alloc o)) := fun o => (Below.refl _ w).alloc (Nat.le_refl _) o
  by_cases hz : l.length = 0 ∨ 20000 < l.length
  · have hr : rightB l = false := by
      unfold rightB
      rw [if_pos (by omega)]
    rw [hr]
    have h1 := hl.1
    have h2 := hl.2.1
    clear hl hr
    generalize l.length = n at *
    rcases hz with hz | hz
    · subst hz
      go_enter Tryz.func28, Tryz.ntmps28
      go_wp2
      go_ret
      exact ⟨rfl, HB0.out _⟩
    · have hn1 : ¬ (n : Int) < 1 := by omega
      have hn2 : (20000 : Int) < (n : Int) := by omega
      go_enter Tryz.func28, Tryz.ntmps28
      go_wp2
      go_ret
      exact ⟨rfl, HB0.out _⟩
  have h0 : 1 ≤ l.length := by omega
  have h1 : l.length ≤ 20000 := by omega
  obtain ⟨n, hn⟩ : ∃ n, n = l.length := ⟨_, rfl⟩
  have HN : Hid (n = l.length) := hn
  have HL : Hid (NdA w ao c l) := hl
  have H48 : Hid (∀ W (i : Nat) x, l[i]? = some x → Below w.heap.size w W → Calls Tryz.prog 48 #[.agg #[.slice ao n c], .int .i64 i] W fun e w' => e = .returned (.bool (rnB l i x)) ∧ Below W.heap.size W w') := fun W i x hx hW => by
    rw [hn]
    exact node48 l ao c i x W (hl.below hW) hx
  have H42 : Hid (Kin l → ∀ W, Below w.heap.size w W → Calls Tryz.prog 42 #[.agg #[.slice ao n c]] W fun e w' => rpQ l W e w') := fun hK W hW => by
    rw [hn]
    exact parents42 l ao c W (hl.below hW) hK h0 h1
  obtain ⟨gn, on, rfl, hnd⟩ := hl.2.2.2 (by omega)
  have hnc : n ≤ c := by rw [hn]; exact hl.1
  have hc2 : c ≤ 9223372036854775807 := hl.2.1
  obtain ⟨m, hm⟩ : ∃ m, n = m + 1 := ⟨n - 1, by omega⟩
  obtain ⟨xl, hxl⟩ : ∃ x, l[m]? = some x := ⟨_, List.getElem?_eq_getElem (by omega)⟩
  obtain ⟨z0, _, _, _, _, _⟩ := nd_cells hnd hxl
  have hg : gn < w.heap.size := World.block_lt_of_cell? _ _ z0
  have hla : lastK l = xl.k := by
    unfold lastK kdK
    rw [show ((l.length : Int) - 1).toNat = m by omega, hxl]
  rw [← hn] at h0 h1 ⊢
  have z0A : ∀ o, (w.alloc o).cell? ⟨gn, on + m * 6, none⟩ = some (.int .i64 xl.k) := fun o => ((bcell (HB0.out o)).1 gn _ hg).trans z0
  have c53 := cells53
  have hm1 : IntKind.i64.wrap ((n : Int) - 1) = (m : Int) := by simp [IntKind.wrap, IntKind.bits, IntKind.signed]; omega
  have hm2 : (n : Int) - 1 = (m : Int) := by omega
  have hm3 : (m : Int) < (n : Int) := by omega
  have hm4 : m < n := by omega
  have hn1 : ¬ (n : Int) < 1 := by omega
  have hn2 : ¬ (20000 : Int) < (n : Int) := by omega
  have HM : Hid (n = m + 1) := hm
  by_cases hk : ¬ xl.k = 1
  · have hr : rightB l = false := by
      unfold rightB
      rw [if_pos (by rw [hla]; omega)]
    rw [hr]
    have hkb : (xl.k == 1) = false := by simpa using hk
    have hkb2 : (xl.k != 1) = true := by simpa using hk
    generalize xl.k = K at *
    clear hl hnd hxl hla hr hm hn hz
    go_enter Tryz.func28, Tryz.ntmps28
    go_wp2
    go_ret
    exact ⟨rfl, HB0.out _⟩
  have hk1 : xl.k = 1 := Classical.not_not.1 hk
  have HLast : Hid (¬ (l.length = 0 ∨ 20000 < l.length ∨ ¬ lastK l = 1)) := by
    rw [hla, ← hn]
    show ¬ _
    omega
  rw [hk1] at z0 z0A
  obtain ⟨R, hR⟩ : ∃ R, R = rightB l := ⟨_, rfl⟩
  rw [← hR]
  have HR : Hid (R = rightB l) := hR
  clear hl hnd hxl hla hk hk1 hR hm hn hz
  obtain ⟨W1, hW1⟩ : ∃ W, W = w.alloc (.cells #[.slice (some ⟨gn, on, none⟩) n c] 24) := ⟨_, rfl⟩
  have hd0 : W1.cell? ⟨w.heap.size, 0, none⟩ = some (.slice (some ⟨gn, on, none⟩) n c) := by rw [hW1]; simp
  have hs1 : W1.heap.size = w.heap.size + 1 := by rw [hW1]; simp
  have hb1 : Below w.heap.size w W1 := by rw [hW1]; exact HB0.out _
  have HCT : Hid (∀ W, Below W1.heap.size W1 W → W.cell? ⟨w.heap.size, 0, none⟩ = some (.slice (some ⟨gn, on, none⟩) n c) ∧ Below w.heap.size w W) := fun W hW => ⟨((bcell hW).1 _ 0 (by omega)).trans hd0, hb1.trans (hW.mono (by omega))⟩
  have HW1 : Hid (W1 = w.alloc (.cells #[.slice (some ⟨gn, on, none⟩) n c] 24)) := hW1
  clear hd0 hs1 hb1 hW1
  go_enter Tryz.func28, Tryz.ntmps28
  go_wp2
  rw [← HW1.out]
  go_loopw [4, 29] (fun _ i wx => ∃ k : Nat, k ≤ n ∧ i = .int .i64 k ∧ Below W1.heap.size W1 wx ∧ ∀ (j : Nat) x, j < k → l[j]? = some x → rnB l j x = true) (fun _ i _ => n - (intOf i).toNat)
  case atStart => exact ⟨0, Nat.zero_le _, rfl, Below.refl _ _, fun j x hj => absurd hj (Nat.not_lt_zero _)⟩
  case round =>
    obtain ⟨k, hk, rfl, hB, hA⟩ := hrel
    have HA : Hid (∀ (j : Nat) x, j < k → l[j]? = some x → rnB l j x = true) := hA
    have HBk : Hid (Below W1.heap.size W1 wr) := hB
    have t0 := (HCT.out wr hB).1
    clear hA hB
    by_cases hlt : k < n
    · obtain ⟨x, hx⟩ : ∃ x, l[k]? = some x := ⟨_, List.getElem?_eq_getElem (by have := HN.out; omega)⟩
      have HC : Hid (∀ W, Below w.heap.size w W → Calls Tryz.prog 48 #[.agg #[.slice (some ⟨gn, on, none⟩) n c], .int .i64 k] W fun e w' => e = .returned (.bool (rnB l k x)) ∧ Below W.heap.size W w') := fun W hW => H48.out W k x hx hW
      have HV : Hid ((rnB l k x = true → ∀ (j : Nat) y, j < k + 1 → l[j]? = some y → rnB l j y = true) ∧ (rnB l k x = false → R = false)) := by
        refine ⟨fun h j y hj hy => ?_, fun h => ?_⟩
        · rcases Nat.lt_or_ge j k with h' | h'
          · exact HA.out j y h' hy
          · obtain rfl : j = k := by omega
            rw [hx] at hy
            cases hy
            exact h
        · rw [HR.out]
          exact right_not hx h
      clear hx
      generalize rnB l k x = b at *
      cases b
      · obtain rfl := HV.out.2 rfl
        go_wp2_with fail
        refine (HC.out _ (HCT.out _ HBk.out).2).mono ?_
        rintro e w2 ⟨rfl, hb⟩
        have HB2 : Hid (Below W1.heap.size W1 w2) := HBk.out.trans (hb.mono HBk.out.size)
        clear hb
        go_wp2
        go_ret
        exact ⟨rfl, (HCT.out _ HB2.out).2⟩
      · go_wp2_with fail
        refine (HC.out _ (HCT.out _ HBk.out).2).mono ?_
        rintro e w2 ⟨rfl, hb⟩
        have HB2 : Hid (Below W1.heap.size W1 w2) := HBk.out.trans (hb.mono HBk.out.size)
        clear hb
        go_wp2
        exact ⟨⟨k + 1, by omega, by go_num, HB2.out, HV.out.1 trivial⟩, by simp [intOf]; omega⟩
    · obtain rfl : n = k := by omega
      have hall : AllR l := fun j x hx => HA.out j x (by have := HN.out; have := (List.getElem?_eq_some_iff.1 hx).1; omega) hx
      have H42' : Hid (∀ W, Below w.heap.size w W → Calls Tryz.prog 42 #[.agg #[.slice (some ⟨gn, on, none⟩) n c]] W fun e w' => rpQ l W e w') := H42.out (allR_kin hall)
      have hro := right_of hall HLast.out
      rw [← HR.out] at hro
      have HRO : Hid (R = match parR l with
        | none => false
        | some p => !((p.take (l.length - 1)).contains (-1)) && !(decide (400 < Lib.maxOf (depR p)))) := hro
      clear hro hall H42 HA
      go_wp2_with fail
      refine (H42'.out _ (HCT.out _ HBk.out).2).mono ?_
      rintro e w2 ⟨hb2, hq⟩
      have HB2 : Hid (Below W1.heap.size W1 w2) := HBk.out.trans (hb2.mono HBk.out.size)
      have HBB : Hid (Below wr.heap.size wr w2) := hb2
      clear hb2
      cases hpr : parR l with
      | none =>
        rw [hpr] at hq HRO
        subst hq
        obtain rfl : R = false := HRO.out
        clear t0 hpr
        go_wp2
        go_ret
        exact ⟨rfl, (HCT.out _ HB2.out).2⟩
      | some p =>
        have hps := parR_some hpr
        have hup := ups_of hpr
        rw [hpr] at hq HRO
        simp only at hq
        have HRO2 : Hid (R = (!((p.take (l.length - 1)).contains (-1)) && !(decide (400 < Lib.maxOf (depR p))))) := HRO.out
        clear HRO
        cases hcn : (p.take (l.length - 1)).contains (-1) with
        | true =>
          rw [hcn] at hq HRO2
          rw [if_pos rfl] at hq
          subst hq
          obtain rfl : R = false := HRO2.out
          clear t0 hpr hps hup hcn
          go_wp2
          go_ret
          exact ⟨rfl, (HCT.out _ HB2.out).2⟩
        | false =>
          rw [hcn] at hq HRO2
          rw [if_neg (by simp)] at hq
          obtain ⟨g, hgg, hbk, rfl⟩ := hq
          rw [← HN.out]
          have H44 : Hid (Calls Tryz.prog 44 #[.agg #[.slice (some ⟨gn, on, none⟩) n c], .slice (some ⟨g, 0, none⟩) n n] w2 fun e w' => e = .returned (.int .i64 (Lib.maxOf (depR p))) ∧ Below w2.heap.size w2 w') := deep44 p _ g n w2 hbk (by rw [hps.1]; exact HN.out.symm) h0 h1 (hup hcn)
          have t2 := (HCT.out w2 HB2.out).1
          have HRD : Hid (R = !(decide (400 < Lib.maxOf (depR p)))) := HRO2.out
          clear hps hup hcn hbk hgg hpr t0 HRO2
          generalize Lib.maxOf (depR p) = D at *
          go_wp2_with fail
          refine H44.out.mono ?_
          rintro e w3 ⟨rfl, hb⟩
          have HB3 : Hid (Below W1.heap.size W1 w3) := HB2.out.trans (hb.mono HB2.out.size)
          clear hb H44
          go_wp2
          all_goals go_ret
          all_goals exact ⟨ret_bool (by rw [HRD.out, Bool.eq_iff_iff]; simp), (HCT.out _ HB3.out).2⟩
end Go.Proofs.YtkkmeogehapjoaaGreatDoor
