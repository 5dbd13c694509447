/- The law of what is printed and cut again. -/
import Derived.Test.YtgdbfedagdlgkaaDoorR2
import Derived.Test.YtgdbfedagdlgkaaDoorQ6
import Derived.Deep.RegionHeld3
namespace Go.Proofs.YtgdbfedagdlgkaaDoor
open Go.RowKit Go.Shelf
set_option maxRecDepth 100000 in
set_option maxHeartbeats 4000000 in
theorem plain21 (k v a b : Int) (t : ByteArray) (w : World) : Calls Tryd.prog 21 #[.agg #[.int .i64 k, .string t, .int .i64 v, .int .i64 a, .int .i64 b]] w fun e w' => e = .returned (.agg #[.int .i64 k, .string t, .int .i64 (if k = 3 then v else 0), .int .i64 0, .int .i64 0]) ∧ Below w.heap.size w w' := by
  have hbl : ∀ o o' : Obj, Below w.heap.size w ((w.alloc o).alloc o') := fun o o' => ((Below.refl _ w).alloc (Nat.le_refl _) o).alloc (by simp) o'
  by_cases h : k = 3
  · subst h
    rw [if_pos rfl]
    go_enter Tryd.func21, Tryd.ntmps21
    go_wp2
    exact bodyPost_ret (v := .agg #[.int .i64 3, .string t, .int .i64 v, .int .i64 0, .int .i64 0]) (by simp [results, Tryd.results21, go_sem]) rfl ⟨rfl, hbl _ _⟩
  · rw [if_neg h]
    go_enter Tryd.func21, Tryd.ntmps21
    go_wp2
    exact bodyPost_ret (v := .agg #[.int .i64 k, .string t, .int .i64 0, .int .i64 0, .int .i64 0]) (by simp [results, Tryd.results21, go_sem]) rfl ⟨rfl, hbl _ _⟩
set_option maxRecDepth 100000 in
set_option maxHeartbeats 4000000 in
/-- Where nothing is printed, or too much. -/
theorem law7_out (l : List Tj) (va : Value) (w : World) (hT : Tb w) (hA : TjA w va l) (h : ¬ (prE l = 0 ∧ (prS l).size ≤ 65536)) : Calls Tryd.prog 7 #[va] w fun e w' => e = .returned (.bool true) ∧ Below w.heap.size w w' := by
  have H17 : Hid (Calls Tryd.prog 17 #[va] w fun e w' => e = .returned (.tuple #[.string (prS l), .int .i64 (prE l)]) ∧ Below w.heap.size w w') := print17 l va w hT hA
  have H12 : Hid (∀ W, Below w.heap.size w W → Calls Tryd.prog 12 #[] W fun e w' => e = .returned (.bool true) ∧ Below W.heap.size W w') := fun W hW => small12 W (hT.below hW (Nat.le_refl _))
  have hE : ¬ prE l = 0 → prS l = ⟨#[]⟩ := by
    unfold prE prS
    intro h
    split
    · rfl
    · rename_i h1
      rw [if_neg h1] at h
      split
      · rename_i h2
        rw [if_pos h2] at h
        exact absurd rfl h
      · rfl
  generalize prS l = S at *
  generalize prE l = Z at *
  obtain ⟨ao, c, rfl, _⟩ := hA
  clear hT
  by_cases h0 : Z = 0
  · subst h0
    have hs : 65536 < S.size := by omega
    go_enter Tryd.func7, Tryd.ntmps7
    go_wp2_with fail
    refine H17.out.mono ?_
    rintro e w1 ⟨rfl, hb⟩
    have HB1 : Hid (Below w.heap.size w w1) := hb
    clear hb
    go_wp2_with fail
    refine (H12.out _ HB1.out).mono ?_
    rintro e w3 ⟨rfl, hb⟩
    have HB3 : Hid (Below w.heap.size w w3) := HB1.out.trans (hb.mono HB1.out.size)
    clear hb
    go_wp2
    go_ret
    exact ⟨rfl, HB3.out⟩
  · obtain rfl := hE h0
    have h0b : (Z == 0) = false := by simpa using h0
    go_enter Tryd.func7, Tryd.ntmps7
    go_wp2_with fail
    refine H17.out.mono ?_
    rintro e w1 ⟨rfl, hb⟩
    have HB1 : Hid (Below w.heap.size w w1) := hb
    clear hb
    go_wp2_with fail
    refine (H12.out _ HB1.out).mono ?_
    rintro e w3 ⟨rfl, hb⟩
    have HB3 : Hid (Below w.heap.size w w3) := HB1.out.trans (hb.mono HB1.out.size)
    clear hb
    go_wp2
    go_ret
    exact ⟨rfl, HB3.out⟩
set_option maxRecDepth 100000 in
set_option maxHeartbeats 4000000 in
/-- Where what is printed is cut again. -/
theorem law7_in (l : List Tj) (va : Value) (w : World) (hT : Tb w) (hA : TjA w va l) (h0 : prE l = 0) (hS : (prS l).size ≤ 65536) : Calls Tryd.prog 7 #[va] w fun e w' => e = .returned (.bool true) ∧ Below w.heap.size w w' := by
  have H17 : Hid (Calls Tryd.prog 17 #[va] w fun e w' => e = .returned (.tuple #[.string (prS l), .int .i64 (prE l)]) ∧ Below w.heap.size w w') := print17 l va w hT hA
  have H12 : Hid (∀ W, Below w.heap.size w W → Calls Tryd.prog 12 #[] W fun e w' => e = .returned (.bool true) ∧ Below W.heap.size W w') := fun W hW => small12 W (hT.below hW (Nat.le_refl _))
  have hall : l.all fmT = true ∧ prS l = ⟨(prt l).toArray⟩ ∧ l.length ≤ 65536 := by
    unfold prE at h0
    unfold prS
    split at h0
    · cases h0
    · rename_i h1
      rw [if_neg h1]
      split at h0
      · rename_i h2
        rw [if_pos h2]
        exact ⟨h2, rfl, by omega⟩
      · cases h0
  obtain ⟨hal, hpe, hln⟩ := hall
  have HAA : Hid (TjA w va l) := hA
  obtain ⟨ao, c, rfl, hc, hc2, hok, hcell⟩ := hA
  have hm : tokR (prS l) = .ok (mkT 0 (nE l) ++ [endT (prS l)]) := by
    rw [hpe]
    refine tokR_prt l hok hal ?_
    rw [hpe] at hS
    rw [← len_of] at hS
    exact hS
  have H9 : Hid (∀ W, Below w.heap.size w W → Calls Tryd.prog 9 #[.string (prS l)] W fun e w' => ∃ v, e = .returned (.tuple #[v, .agg #[.int .i64 0, .int .i64 0, .int .i64 0]]) ∧ TkS w' v (mkT 0 (nE l) ++ [endT (prS l)]) ∧ Below W.heap.size W w') := fun W hW => (tokens9 (prS l) W (hT.below hW (Nat.le_refl _)) (by omega)).mono fun e w' h => by
    have t := cutQ_open h
    rw [hm] at t
    exact t
  obtain ⟨n, hn⟩ : ∃ n, n = l.length := ⟨_, rfl⟩
  obtain ⟨N, hN⟩ : ∃ N, N = (nE l).length := ⟨_, rfl⟩
  have hNn : N ≤ n := by rw [hN, hn]; exact List.length_filter_le _ _
  have HN : Hid (n = l.length ∧ N = (nE l).length) := ⟨hn, hN⟩
  have HC : Hid (0 < n → ∃ g o, ao = some ⟨g, o, none⟩ ∧ ∀ i x, l[i]? = some x → ∀ j y, (tjc x)[j]? = some y → w.cell? ⟨g, o + i * 5 + j, none⟩ = some y) := by rw [hn]; exact hcell
  rw [h0] at H17
  rw [← hn] at hc hln ⊢
  have HM : Hid ((mkT 0 (nE l) ++ [endT (prS l)]).length = N + 1 ∧ (∀ (i : Nat) (x : Tj), (nE l)[i]? = some x → ∃ a b, (mkT 0 (nE l) ++ [endT (prS l)])[i]? = some (⟨x.k, x.t, if x.k = 3 then x.v else 0, a, b⟩ : Tk)) ∧ (mkT 0 (nE l) ++ [endT (prS l)])[N]? = some (endT (prS l))) := by
    refine ⟨by simp [mkT_len, hN], fun i x hi => ?_, ?_⟩
    · obtain ⟨a, b, e⟩ := mkT_at (nE l) 0 i x hi
      have hlt : i < (mkT 0 (nE l)).length := by rw [mkT_len]; exact (List.getElem?_eq_some_iff.1 hi).1
      exact ⟨a, b, by rw [List.getElem?_append_left hlt]; exact e⟩
    · rw [List.getElem?_append_right (by rw [mkT_len, hN]; exact Nat.le_refl _), mkT_len, hN]
      simp
  have hek : (endT (prS l)).k = 5 := rfl
  rw [← hn] at H17
  generalize endT (prS l) = eT at *
  generalize prS l = S at *
  generalize mkT 0 (nE l) ++ [eT] = M at *
  clear hT hcell hok hm hal hpe h0 hn hN
  have c42 := cells42
  go_enter Tryd.func7, Tryd.ntmps7
  go_wp2_with fail
  refine H17.out.mono ?_
  rintro e w1 ⟨rfl, hb⟩
  have HB1 : Hid (Below w.heap.size w w1) := hb
  clear hb
  go_wp2_with fail
  refine (H9.out _ HB1.out).mono ?_
  rintro e w2 ⟨vm, rfl, hvm, hb⟩
  have HB2 : Hid (Below w.heap.size w w2) := HB1.out.trans (hb.mono HB1.out.size)
  have HVM : Hid (TkS w2 vm M) := hvm
  clear hb hvm
  obtain ⟨gm, cm, rfl, hcm, hM⟩ : ∃ gm cm, vm = .slice (some ⟨gm, 0, none⟩) M.length cm ∧ (M.length ≤ cm ∧ cm ≤ 9223372036854775807) ∧ ∀ i x, M[i]? = some x → ∀ j y, (tkc x)[j]? = some y → w2.cell? ⟨gm, i * 5 + j, none⟩ = some y := by
    rcases HVM.out with ⟨_, e⟩ | ⟨gm, cm, e, hc', hM⟩
    · have := HM.out.1
      rw [e] at this
      simp at this
    · exact ⟨gm, cm, e, by omega, hM⟩
  rw [HM.out.1] at hcm ⊢
  have HMC : Hid (∀ i x, M[i]? = some x → ∀ j y, (tkc x)[j]? = some y → w2.cell? ⟨gm, i * 5 + j, none⟩ = some y) := hM
  clear hM HVM
  go_wp2_with fail
  have HBW : Hid (Below w.heap.size w (w2.alloc (.cells #[.int .i64 0, .int .i64 0, .int .i64 0] 25))) := HB2.out.alloc HB2.out.size _
  have hMC : ∀ i x, M[i]? = some x → ∀ j y, (tkc x)[j]? = some y → (w2.alloc (.cells #[.int .i64 0, .int .i64 0, .int .i64 0] 25)).cell? ⟨gm, i * 5 + j, none⟩ = some y := fun i x hi j y hy => by
    have t := HMC.out i x hi j y hy
    rw [(bcell (below_cells w2 _ _)).1 gm _ (World.block_lt_of_cell? _ _ t)]
    exact t
  obtain ⟨W0, hW0⟩ : ∃ W, W = w2.alloc (.cells #[.int .i64 0, .int .i64 0, .int .i64 0] 25) := ⟨_, rfl⟩
  rw [← hW0] at HBW hMC ⊢
  have HMC : Hid (∀ i x, M[i]? = some x → ∀ j y, (tkc x)[j]? = some y → W0.cell? ⟨gm, i * 5 + j, none⟩ = some y) := hMC
  have hs0 : w.heap.size ≤ W0.heap.size := HBW.out.size
  clear hMC hW0
  go_loopw [7, 41] (fun iv kv wx => ∃ k : Nat, k ≤ n ∧ kv = .int .i64 k ∧ iv = .int .i64 (nE (l.take k)).length ∧ Below W0.heap.size W0 wx) (fun _ kv _ => n - (intOf kv).toNat)
  case atStart => exact ⟨0, Nat.zero_le _, rfl, rfl, Below.refl _ _⟩
  case round =>
    obtain ⟨k, hk, rfl, rfl, hB⟩ := hrel
    have HBx : Hid (Below W0.heap.size W0 wr) := hB
    clear hB
    by_cases hlt : k < n
    · obtain ⟨x, hx⟩ : ∃ x, l[k]? = some x := ⟨_, List.getElem?_eq_getElem (by have := HN.out.1; omega)⟩
      obtain ⟨g, o, rfl, hcl⟩ := HC.out (by omega)
      obtain ⟨y0, y1, y2, y3, y4⟩ := tj_cells hcl hx
      have hg : g < w.heap.size := World.block_lt_of_cell? _ _ y0
      have hbw : Below w.heap.size w wr := HBW.out.trans (HBx.out.mono HBW.out.size)
      have a0 := ((bcell hbw).1 g (o + k * 5) hg).trans y0
      have a1 := ((bcell hbw).1 g (o + k * 5 + 1) hg).trans y1
      have a2 := ((bcell hbw).1 g (o + k * 5 + 2) hg).trans y2
      have a3 := ((bcell hbw).1 g (o + k * 5 + 3) hg).trans y3
      have a4 := ((bcell hbw).1 g (o + k * 5 + 4) hg).trans y4
      have hnx := nE_next l k x hx
      have HQ : Hid (¬ x.k = 5 → (nE l)[(nE (l.take k)).length]? = some x) := fun h => nE_at l k x hx h
      clear y0 y1 y2 y3 y4 hcl hx hbw
      obtain ⟨K, T, V, F, E⟩ := x
      simp only at *
      generalize hq : (nE (l.take k)).length = q at *
      by_cases h5 : K = 5
      · subst h5
        go_wp2
        refine ⟨⟨k + 1, by omega, by go_num, ?_, HBx.out.alloc HBx.out.size _⟩, by simp [intOf]; omega⟩
        rw [hnx, if_pos rfl]
        rfl
      · have h5b : (K == 5) = false := by simpa using h5
        have hq1 := HQ.out h5
        have hqN : q < N := by have := (List.getElem?_eq_some_iff.1 hq1).1; have := HN.out.2; omega
        obtain ⟨A1, B1, hMq⟩ := HM.out.2.1 q _ hq1
        rw [if_neg h5] at hnx
        have HNX : Hid ((nE (l.take (k + 1))).length = q + 1) := hnx
        clear hnx hq1 HQ
        obtain ⟨V', hV⟩ : ∃ V', (if K = 3 then V else 0) = V' := ⟨_, rfl⟩
        simp only at hMq
        rw [hV] at hMq
        obtain ⟨m0, m1, m2, m3, m4⟩ := tk_cells HMC.out hMq
        have hgm : gm < W0.heap.size := World.block_lt_of_cell? _ _ m0
        simp only at m0 m1 m2 m3 m4
        generalize ((A1 : Nat) : Int) = A1 at *
        generalize ((B1 : Nat) : Int) = B1 at *
        have HPC : Hid (∀ W, Below (wr.alloc (.cells #[.int .i64 K, .string T, .int .i64 V, .int .i64 F, .int .i64 E] 42)).heap.size (wr.alloc (.cells #[.int .i64 K, .string T, .int .i64 V, .int .i64 F, .int .i64 E] 42)) W → W.cell? ⟨gm, q * 5, none⟩ = some (.int .i64 K) ∧ W.cell? ⟨gm, q * 5 + 1, none⟩ = some (.string T) ∧ W.cell? ⟨gm, q * 5 + 2, none⟩ = some (.int .i64 V') ∧ W.cell? ⟨gm, q * 5 + 3, none⟩ = some (.int .i64 A1) ∧ W.cell? ⟨gm, q * 5 + 4, none⟩ = some (.int .i64 B1) ∧ W.cell? ⟨wr.heap.size, 0, none⟩ = some (.int .i64 K) ∧ W.cell? ⟨wr.heap.size, 1, none⟩ = some (.string T) ∧ W.cell? ⟨wr.heap.size, 2, none⟩ = some (.int .i64 V) ∧ W.cell? ⟨wr.heap.size, 3, none⟩ = some (.int .i64 F) ∧ W.cell? ⟨wr.heap.size, 4, none⟩ = some (.int .i64 E)) := fun W hW => by
          have hbx : Below W0.heap.size W0 W := (HBx.out.alloc HBx.out.size _).trans (hW.mono (by have := HBx.out.size; simp; omega))
          have z0 : wr.heap.size < (wr.alloc (.cells #[.int .i64 K, .string T, .int .i64 V, .int .i64 F, .int .i64 E] 42)).heap.size := by simp
          refine ⟨?_, ?_, ?_, ?_, ?_, ?_, ?_, ?_, ?_, ?_⟩
          · rw [(bcell hbx).1 _ _ hgm]; exact m0
          · rw [(bcell hbx).1 _ _ hgm]; exact m1
          · rw [(bcell hbx).1 _ _ hgm]; exact m2
          · rw [(bcell hbx).1 _ _ hgm]; exact m3
          · rw [(bcell hbx).1 _ _ hgm]; exact m4
          · rw [(bcell hW).1 _ _ z0]; simp
          · rw [(bcell hW).1 _ _ z0]; simp
          · rw [(bcell hW).1 _ _ z0]; simp
          · rw [(bcell hW).1 _ _ z0]; simp
          · rw [(bcell hW).1 _ _ z0]; simp
        clear m0 m1 m2 m3 m4 hMq
        have HW1 : Hid (Below W0.heap.size W0 (wr.alloc (.cells #[.int .i64 K, .string T, .int .i64 V, .int .i64 F, .int .i64 E] 42))) := HBx.out.alloc HBx.out.size _
        have HP : Hid (∀ W v f e, (v = V ∨ v = V') → Calls Tryd.prog 21 #[.agg #[.int .i64 K, .string T, .int .i64 v, .int .i64 f, .int .i64 e]] W fun e w' => e = .returned (.agg #[.int .i64 K, .string T, .int .i64 V', .int .i64 0, .int .i64 0]) ∧ Below W.heap.size W w') := fun W v f e hv => (plain21 K v f e T W).mono fun _ _ h => ⟨by
          rw [h.1, show (if K = 3 then v else 0) = V' by
            rcases hv with rfl | rfl
            · exact hV
            · rw [← hV]; split <;> rfl], h.2⟩
        clear hV hq HBx hgm
        go_wp2_with fail
        generalize wr.alloc (.cells #[.int .i64 K, .string T, .int .i64 V, .int .i64 F, .int .i64 E] 42) = W1 at *
        generalize wr.heap.size = X at *
        have HP' : Hid (∀ W v f e, (v = V ∨ v = V') → Below W1.heap.size W1 W → Calls Tryd.prog 21 #[.agg #[.int .i64 K, .string T, .int .i64 v, .int .i64 f, .int .i64 e]] W fun e w' => e = .returned (.agg #[.int .i64 K, .string T, .int .i64 V', .int .i64 0, .int .i64 0]) ∧ Below W1.heap.size W1 w') := fun W v f e hv hW => (HP.out W v f e hv).mono fun _ _ h => ⟨h.1, hW.trans (h.2.mono hW.size)⟩
        clear HP
        have HZ : Hid (Below W1.heap.size W1 W1) := Below.refl _ _
        obtain ⟨c0, c1, c2, c3, c4, d0, d1, d2, d3, d4⟩ := HPC.out W1 HZ.out
        have hge : decide ((N : Int) + 1 ≤ (q : Int)) = false := decide_eq_false (by omega)
        have hge2 : decide (((N + 1 : Nat) : Int) ≤ (q : Int)) = false := decide_eq_false (by omega)
        have hq6 : (0 : Int) ≤ (q : Int) := by omega
        have hq7 : (q : Int) < ((N + 1 : Nat) : Int) := by omega
        have hq8 : (q : Int) < (N : Int) + 1 := by omega
        have hqn : q < N + 1 := by omega
        have hnq := neq_tk
        go_region_held3 (fun w' => Below W1.heap.size W1 w' ∧ w'.cell? ⟨gm, q * 5, none⟩ = some (.int .i64 K) ∧ w'.cell? ⟨gm, q * 5 + 1, none⟩ = some (.string T) ∧ w'.cell? ⟨gm, q * 5 + 2, none⟩ = some (.int .i64 V') ∧ w'.cell? ⟨gm, q * 5 + 3, none⟩ = some (.int .i64 A1) ∧ w'.cell? ⟨gm, q * 5 + 4, none⟩ = some (.int .i64 B1) ∧ w'.cell? ⟨X, 0, none⟩ = some (.int .i64 K) ∧ w'.cell? ⟨X, 1, none⟩ = some (.string T) ∧ w'.cell? ⟨X, 2, none⟩ = some (.int .i64 V) ∧ w'.cell? ⟨X, 3, none⟩ = some (.int .i64 F) ∧ w'.cell? ⟨X, 4, none⟩ = some (.int .i64 E)) (first | assumption | (refine ⟨?_, ?_, ?_, ?_, ?_, ?_, ?_, ?_, ?_, ?_, ?_⟩ <;> (first | assumption | (exact HZ.out) | (exact HZ.out.trans ⟨rfl, rfl, rfl, Nat.le_refl _, fun _ _ => rfl⟩) | (simp; done) | (simp; assumption)))) (first | (go_at_call 21; refine (HP'.out _ _ _ _ (by first | exact .inl rfl | exact .inr rfl) (by first | exact HZ.out.trans ⟨rfl, rfl, rfl, Nat.le_refl _, fun _ _ => rfl⟩ | assumption | exact And.left (by assumption))).mono ?_; rintro e w4 ⟨rfl, hB4⟩; obtain ⟨e0, e1, e2, e3, e4, f0, f1, f2, f3, f4⟩ := HPC.out w4 hB4))
        go_wp2
        refine ⟨⟨k + 1, by omega, by go_num, ?_, HW1.out.trans (hB4.mono HW1.out.size)⟩, by simp [intOf]; omega⟩
        rw [HNX.out]
        go_num
    · obtain rfl : k = n := by omega
      have hta : l.take k = l := List.take_of_length_le (by have := HN.out.1; omega)
      rw [hta, ← HN.out.2]
      obtain ⟨m0, m1, m2, m3, m4⟩ := tk_cells HMC.out HM.out.2.2
      rw [hek] at m0
      have hgm : gm < W0.heap.size := World.block_lt_of_cell? _ _ m0
      have a0 := ((bcell HBx.out).1 gm (N * 5) hgm).trans m0
      have HB4 : Hid (Below w.heap.size w wr) := HBW.out.trans (HBx.out.mono HBW.out.size)
      clear m0 m1 m2 m3 m4
      go_wp2_with fail
      refine (H12.out _ HB4.out).mono ?_
      rintro e w5 ⟨rfl, hb⟩
      have HB5 : Hid (Below w.heap.size w w5) := HB4.out.trans (hb.mono HB4.out.size)
      clear hb
      go_wp2
      go_ret
      exact ⟨rfl, HB5.out⟩
theorem law7 (l : List Tj) (va : Value) (w : World) (hT : Tb w) (hA : TjA w va l) : Calls Tryd.prog 7 #[va] w fun e w' => e = .returned (.bool true) ∧ Below w.heap.size w w' := by
  by_cases h : prE l = 0 ∧ (prS l).size ≤ 65536
  · exact law7_in l va w hT hA h.1 h.2
  · exact law7_out l va w hT hA h
end Go.Proofs.YtgdbfedagdlgkaaDoor
