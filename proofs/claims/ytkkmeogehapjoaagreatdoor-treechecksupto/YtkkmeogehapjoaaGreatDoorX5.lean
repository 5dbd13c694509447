/- Whether a tree is right: the program's own. -/
import Derived.Test.YtkkmeogehapjoaaGreatDoorX5a
namespace Go.Proofs.YtkkmeogehapjoaaGreatDoor
open Go.RowKit Go.Shelf
set_option maxRecDepth 100000 in
set_option maxHeartbeats 4000000 in
theorem right30 (l : List Nd) (ao : Option Addr) (c : Nat) (w : World) (hT : Tm w) (hl : NdA w ao c l) : Calls Tryz.prog 30 #[.slice ao l.length c] w fun e w' => e = .returned (.bool (rightB l)) ∧ Below w.heap.size w w' := by
  by_cases hz : l.length = 0 ∨ 20000 < l.length
  · exact right_size l ao c w hl hz
  have HT : Hid (Tm w) := hT
  have h0 : 1 ≤ l.length := by omega
  have h1 : l.length ≤ 20000 := by omega
  obtain ⟨n, hn⟩ : ∃ n, n = l.length := ⟨_, rfl⟩
  have H41 : Hid (Calls Tryz.prog 41 #[.slice ao n c] w fun e w' => parQ l w e w') := by rw [hn]; exact parents41 l ao c w hl h0 h1
  obtain ⟨gn, on, rfl, hnd⟩ := hl.2.2.2 (by omega)
  have HL : Hid (NdA w (some ⟨gn, on, none⟩) c l) := hl
  have hnc : n ≤ c := by rw [hn]; exact hl.1
  have hc2 : c ≤ 9223372036854775807 := hl.2.1
  obtain ⟨m, hm⟩ : ∃ m, n = m + 1 := ⟨n - 1, by omega⟩
  obtain ⟨xl, hxl⟩ : ∃ x, l[m]? = some x := ⟨_, List.getElem?_eq_getElem (by omega)⟩
  obtain ⟨z0, _, _, _, _, _⟩ := nd_cells hnd hxl
  have hla : lastK l = xl.k := by
    unfold lastK kdK
    rw [show ((l.length : Int) - 1).toNat = m by omega, hxl]
  rw [← hn] at h0 h1 ⊢
  have HN : Hid (n = l.length) := hn
  have hRd : rightB l = if ¬ xl.k = 1 then false else match parR l with
    | none => false
    | some p => !((p.take (l.length - 1)).contains (-1)) && (!(decide (400 < Lib.maxOf (depR p))) && l.all (nodB l)) := by
    unfold rightB
    rw [hla]
    by_cases hk : xl.k = 1
    · rw [if_neg (by omega), if_neg (by simp [hk])]
      cases parR l <;> rfl
    · rw [if_pos (by omega), if_pos hk]
  have hg : gn < w.heap.size := World.block_lt_of_cell? _ _ z0
  have c53 := cells53
  have hm1 : IntKind.i64.wrap ((n : Int) - 1) = (m : Int) := by simp [IntKind.wrap, IntKind.bits, IntKind.signed]; omega
  have hm2 : (n : Int) - 1 = (m : Int) := by omega
  have hm3 : (m : Int) < (n : Int) := by omega
  have hm4 : m < n := by omega
  have hz0 : ((n : Int) == 0) = false := by rw [beq_eq_false_iff_ne]; omega
  have hz1 : decide ((20000 : Int) < (n : Int)) = false := by rw [decide_eq_false_iff_not]; omega
  have hz2 : ¬ (n : Int) = 0 := by omega
  have hz3 : ¬ (20000 : Int) < (n : Int) := by omega
  have HM : Hid (n = m + 1) := hm
  generalize xl.k = K at *
  clear hl hz hn hnd hla hT hxl hm
  by_cases hk : K = 1
  · rw [if_neg (by simp [hk])] at hRd
    subst hk
    generalize hRR : rightB l = R at *
    have HR : Hid (R = match parR l with
      | none => false
      | some p => !((p.take (l.length - 1)).contains (-1)) && (!(decide (400 < Lib.maxOf (depR p))) && l.all (nodB l))) := by show R = _; rw [hRd]
    clear hRR hRd
    go_enter Tryz.func30, Tryz.ntmps30
    go_wp2_with fail
    refine H41.out.mono ?_
    rintro e w1 ⟨hb1, hq⟩
    have HB1 : Hid (Below w.heap.size w w1) := hb1
    clear hb1 H41 z0
    cases hpr : parR l with
    | none =>
      rw [hpr] at hq HR
      subst hq
      clear hpr
      go_wp2
      go_ret
      exact ⟨ret_bool HR.out.symm, HB1.out⟩
    | some p =>
      have hps := parR_some hpr
      have hup := ups_of hpr
      rw [hpr] at hq HR
      obtain ⟨G, hG, hpl, hbk, rfl⟩ := hq
      rw [← HN.out] at hup hpl
      have HR2 : Hid (R = (!((p.take (n - 1)).contains (-1)) && (!(decide (400 < Lib.maxOf (depR p))) && l.all (nodB l)))) := by show R = _; rw [HN.out]; exact HR.out
      rw [← HN.out]
      clear HR hpr
      cases hcn : (p.take (n - 1)).contains (-1) with
      | true =>
        rw [hcn] at HR2
        clear hcn hps hup hpl hbk
        go_wp2
        go_ret
        exact ⟨ret_bool HR2.out.symm, HB1.out⟩
      | false =>
        rw [hcn] at HR2
        have H43 : Hid (Calls Tryz.prog 43 #[.slice (some ⟨G, 0, none⟩) n n] w1 fun e w' => e = .returned (.int .i64 (Lib.maxOf (depR p))) ∧ Below w1.heap.size w1 w') := depth43 p G n w1 hbk hpl h0 h1 (hup hcn)
        have HP : Hid (∀ x ∈ l, Inn l x.ks) := hps.2.2
        clear hcn hps hup hpl hbk
        generalize Lib.maxOf (depR p) = D at *
        go_wp2_with fail
        refine H43.out.mono ?_
        rintro e w2 ⟨rfl, hb⟩
        have HB2 : Hid (Below w.heap.size w w2) := HB1.out.trans (hb.mono HB1.out.size)
        clear hb H43 HB1
        by_cases hD : 400 < D
        · have hDd : decide (400 < D) = true := by simpa using hD
          rw [hDd] at HR2
          go_wp2
          go_ret
          exact ⟨ret_bool HR2.out.symm, HB2.out⟩
        · have hDd : decide (400 < D) = false := by simpa using hD
          rw [hDd] at HR2
          have HA : Hid (R = l.all (nodB l)) := by show R = _; rw [HR2.out]; simp
          clear HR2
          go_wp2
          go_loopw [39] (fun i wx => ∃ k : Nat, k ≤ n ∧ i = .int .i64 k ∧ Below w.heap.size w wx ∧ (l.take k).all (nodB l) = true) (fun i _ => n - (intOf i).toNat)
          case atStart => exact ⟨0, Nat.zero_le _, rfl, HB2.out, rfl⟩
          case round =>
            obtain ⟨k, hk, rfl, hB, hA⟩ := hrel
            have HBk : Hid (Below w.heap.size w wr) := hB
            clear HB2
            by_cases hlt : k < n
            · obtain ⟨x, hx⟩ : ∃ x, l[k]? = some x := ⟨_, List.getElem?_eq_getElem (by have := HN.out; omega)⟩
              have hxm := List.mem_of_getElem? hx
              have hxo := HL.out.2.2.1 x hxm
              obtain ⟨gn', on', he, hnd⟩ := HL.out.2.2.2 (by have := HN.out; omega)
              cases he
              obtain ⟨y0, y1, y2, y3, y4, y5⟩ := nd_cells hnd hx
              have a0 := ((bcell hB).1 gn (on + k * 6) hg).trans y0
              have a1 := ((bcell hB).1 gn (on + k * 6 + 1) hg).trans y1
              have a2 := ((bcell hB).1 gn (on + k * 6 + 2) hg).trans y2
              have a3 := ((bcell hB).1 gn (on + k * 6 + 3) hg).trans y3
              have a4 := ((bcell hB).1 gn (on + k * 6 + 4) hg).trans y4
              have a5 := ((bcell hB).1 gn (on + k * 6 + 5) hg).trans y5
              have H60 : Hid (∀ W, Below w.heap.size w W → Calls Tryz.prog 60 #[.agg #[.int .i64 x.k, .string x.nm, .int .i64 x.v, .slice x.ka x.ks.length x.kc, .int .i64 x.fr, .int .i64 x.en]] W fun e w' => e = .returned (.bool (nfB x.k x.nm.data.toList)) ∧ Below W.heap.size W w') := fun W hW => nameFits60 x.k x.v x.fr x.en x.nm x.ka x.ks.length x.kc W (HT.out.below hW) (by have := hxo.nm; omega)
              have H61 : Hid (∀ W, Below w.heap.size w W → Calls Tryz.prog 61 #[.agg #[.int .i64 x.k, .string x.nm, .int .i64 x.v, .slice x.ka x.ks.length x.kc, .int .i64 x.fr, .int .i64 x.en]] W fun e w' => e = .returned (.bool (nuB x.k x.v)) ∧ Below W.heap.size W w') := fun W hW => numFits61 x.k x.v x.fr x.en x.nm x.ka x.ks.length x.kc W
              have H62 : Hid (nuB x.k x.v = true → ∀ W, Below w.heap.size w W → Calls Tryz.prog 62 #[.slice (some ⟨gn, on, none⟩) n c, .agg #[.int .i64 x.k, .string x.nm, .int .i64 x.v, .slice x.ka x.ks.length x.kc, .int .i64 x.fr, .int .i64 x.en]] W fun e w' => e = .returned (.bool (kidsB l x.k x.v x.ks)) ∧ Below W.heap.size W w') := fun hv W hW => by
                rw [HN.out]
                exact kidsFit62 l x _ c W (HL.out.below hW) (hxo.ks.below hW) (HP.out x hxm) hv
              have HV : Hid ((l.take (k + 1)).all (nodB l) = nodB l x ∧ (nodB l x = false → R = false)) := by
                refine ⟨?_, fun h => ?_⟩
                · rw [List.take_add_one, hx, List.all_append, hA, Bool.true_and]
                  simp
                · rw [HA.out, ← Bool.not_eq_true, List.all_eq_true]
                  intro hh
                  have t := hh x hxm
                  rw [h] at t
                  cases t
              unfold nodB at HV
              clear hnd hx hxm hxo y0 y1 y2 y3 y4 y5 hB hA
              generalize hnv : nuB x.k x.v = bv at *
              have HNV : Hid (nuB x.k x.v = bv) := hnv
              clear hnv
              generalize nfB x.k x.nm.data.toList = bn at *
              generalize kidsB l x.k x.v x.ks = bk at *
              obtain ⟨K, T, V, ka, kc, ks, F, E⟩ := x
              simp only at *
              generalize ks.length = mk at *
              have HBa : Hid (∀ o, Below w.heap.size w (wr.alloc o)) := fun o => HBk.out.alloc HBk.out.size o
              by_cases hF : F < 0
              · have hFd : decide (F < 0) = true := by simpa using hF
                obtain rfl : R = false := HV.out.2 (by rw [hFd]; rfl)
                go_wp2
                go_ret
                exact ⟨rfl, HBa.out _⟩
              have hFd : decide (F < 0) = false := by simpa using hF
              by_cases hE : E < F
              · have hEd : decide (E < F) = true := by simpa using hE
                obtain rfl : R = false := HV.out.2 (by rw [hFd, hEd]; rfl)
                go_wp2
                go_ret
                exact ⟨rfl, HBa.out _⟩
              have hEd : decide (E < F) = false := by simpa using hE
              rw [hFd, hEd] at HV
              have HV2 : Hid ((l.take (k + 1)).all (nodB l) = (bn && (bv && bk)) ∧ ((bn && (bv && bk)) = false → R = false)) := HV.out
              clear HV
              go_wp2_with fail
              refine (H60.out _ (HBa.out _)).mono ?_
              rintro e w3 ⟨rfl, hb3⟩
              have HB3 : Hid (Below w.heap.size w w3) := (HBa.out _).trans (hb3.mono (HBa.out _).size)
              have d0 := (bcell hb3).1 wr.heap.size 0 (by simp)
              have d1 := (bcell hb3).1 wr.heap.size 1 (by simp)
              have d2 := (bcell hb3).1 wr.heap.size 2 (by simp)
              have d3 := (bcell hb3).1 wr.heap.size 3 (by simp)
              have d4 := (bcell hb3).1 wr.heap.size 4 (by simp)
              have d5 := (bcell hb3).1 wr.heap.size 5 (by simp)
              clear hb3 H60 a0 a1 a2 a3 a4 a5
              simp at d0 d1 d2 d3 d4 d5
              generalize wr.heap.size = Z at *
              cases bn
              · obtain rfl := HV2.out.2 rfl
                go_wp2
                go_ret
                exact ⟨rfl, HB3.out⟩
              go_wp2_with fail
              refine (H61.out _ HB3.out).mono ?_
              rintro e w4 ⟨rfl, hb4⟩
              have HB4 : Hid (Below w.heap.size w w4) := HB3.out.trans (hb4.mono HB3.out.size)
              have hZ : Z < w3.heap.size := World.block_lt_of_cell? _ _ d0
              have f0 := ((bcell hb4).1 Z 0 hZ).trans d0
              have f1 := ((bcell hb4).1 Z 1 hZ).trans d1
              have f2 := ((bcell hb4).1 Z 2 hZ).trans d2
              have f3 := ((bcell hb4).1 Z 3 hZ).trans d3
              have f4 := ((bcell hb4).1 Z 4 hZ).trans d4
              have f5 := ((bcell hb4).1 Z 5 hZ).trans d5
              clear hb4 H61 d0 d1 d2 d3 d4 d5 hZ
              cases bv
              · obtain rfl := HV2.out.2 rfl
                go_wp2
                go_ret
                exact ⟨rfl, HB4.out⟩
              go_wp2_with fail
              refine (H62.out trivial _ HB4.out).mono ?_
              rintro e w5 ⟨rfl, hb5⟩
              have HB5 : Hid (Below w.heap.size w w5) := HB4.out.trans (hb5.mono HB4.out.size)
              clear hb5 H62 f0 f1 f2 f3 f4 f5
              cases bk
              · obtain rfl := HV2.out.2 rfl
                go_wp2
                go_ret
                exact ⟨rfl, HB5.out⟩
              go_wp2
              exact ⟨⟨k + 1, by omega, by go_num, HB5.out, HV2.out.1⟩, by simp [intOf]; omega⟩
            · obtain rfl : k = n := by omega
              have hta : l.take k = l := List.take_of_length_le (by have := HN.out; omega)
              have hR : R = true := by rw [HA.out, ← hA, hta]
              subst hR
              clear hta hA
              go_wp2
              go_ret
              exact ⟨rfl, HBk.out⟩
  · rw [if_pos hk] at hRd
    rw [hRd]
    have hkb : (K == 1) = false := by simpa using hk
    have hkb2 : (K != 1) = true := by simpa using hk
    clear hRd H41
    go_enter Tryz.func30, Tryz.ntmps30
    go_wp2
    go_ret
    exact ⟨rfl, Below.refl _ _⟩
end Go.Proofs.YtkkmeogehapjoaaGreatDoor
