/- Blanks and remarks between two sources say nothing: where both are cut. -/
import Derived.Test.YtgdbfedagdlgkabDoorM3
import Derived.Deep.RegionHeld3
namespace Go.Proofs.YtgdbfedagdlgkabDoor
open Go.RowKit Go.Shelf
def Cel (W : World) (g : Nat) (l : List Tk) : Prop := ∀ i x, l[i]? = some x → ∀ j y, (tkc x)[j]? = some y → W.cell? ⟨g, i * 5 + j, none⟩ = some y
theorem Cel.below {W W' : World} {g : Nat} {l : List Tk} (h : Cel W g l) (hb : Below W.heap.size W W') : Cel W' g l := fun i x hx j y hy => by
  have t := h i x hx j y hy
  rw [hb.cell (p := ⟨g, i * 5 + j, none⟩) (World.block_lt_of_cell? _ _ t)]
  exact t
theorem tks_some {W : World} {v : Value} {l : List Tk} (h : TkS W v l) (hl : 0 < l.length) : ∃ g c, v = .slice (some ⟨g, 0, none⟩) l.length c ∧ l.length ≤ c ∧ c ≤ 9223372036854775807 ∧ Cel W g l := by
  rcases h with ⟨_, rfl⟩ | ⟨g, c, e, hc, h⟩
  · simp at hl
  · exact ⟨g, c, e, hc.1, hc.2, h⟩
set_option maxRecDepth 100000 in
set_option maxHeartbeats 4000000 in
theorem law_ok (a b : ByteArray) (w : World) (hab : a.size + b.size ≤ 60000) (fa ta fb tb fs ts : Int) (la lb ls : List Tk)
    (HA : Hid (∀ W, Below w.heap.size w W → Cut a 0 fa ta la W)) (HB : Hid (∀ W, Below w.heap.size w W → Cut b 0 fb tb lb W)) (HS : Hid (∀ W, Below w.heap.size w W → Cut (a ++ ⟨#[10, 47, 47, 32, 120, 10, 32, 9]⟩ ++ b) 0 fs ts ls W))
    (H4 : Hid (∀ W, Below w.heap.size w W → Calls Tryd.prog 4 #[] W fun e w' => e = .returned (.bool true) ∧ Below W.heap.size W w')) (nr nb M : Nat) (ea : Tk) (r : List Tk) (hla : la = r ++ [ea]) (hls : ls = r ++ lb.map (shT M)) (hr : nr = r.length) (hnb : nb = lb.length) (hnr : nr ≤ 65537) (hnb2 : nb ≤ 65537) (hnb0 : 0 < nb) : Calls Tryd.prog 3 #[.string a, .string b] w fun e w' => e = .returned (.bool true) ∧ Below w.heap.size w w' := by
  have ha60 : a.size ≤ 60000 := by omega
  have hb60 : b.size ≤ 60000 := by omega
  go_enter Tryd.func3, Tryd.ntmps3
  go_wp2_with fail
  refine (HA.out _ (Below.refl _ _)).mono ?_
  rintro e w1 ⟨va, rfl, hva, hb1⟩
  have B1 : Hid (Below w.heap.size w (w1.alloc (dgO 0 fa ta))) := hb1.alloc hb1.size _
  have A1 : Hid (TkS (w1.alloc (dgO 0 fa ta)) va la) := hva.below ((Below.refl _ w1).alloc (Nat.le_refl _) _) (Nat.le_refl _)
  clear hb1 hva
  go_wp2_with fail
  refine (HB.out _ B1.out).mono ?_
  rintro e w2 ⟨vb, rfl, hvb, hb2⟩
  have B2 : Hid (Below w.heap.size w (w2.alloc (dgO 0 fb tb))) := (B1.out.trans (hb2.mono B1.out.size)).alloc (B1.out.trans (hb2.mono B1.out.size)).size _
  have A2 : Hid (TkS (w2.alloc (dgO 0 fb tb)) va la) := (A1.out.below hb2 (Nat.le_refl _)).below ((Below.refl _ w2).alloc (Nat.le_refl _) _) (Nat.le_refl _)
  have A2b : Hid (TkS (w2.alloc (dgO 0 fb tb)) vb lb) := hvb.below ((Below.refl _ w2).alloc (Nat.le_refl _) _) (Nat.le_refl _)
  have X2 : Hid ((w2.alloc (dgO 0 fb tb)).heap[w1.heap.size]? = some (dgO 0 fa ta)) := keep_new (keep_block (at_dg w1 0 fa ta) hb2) _
  clear hb2 hvb
  go_wp2_with fail
  refine (HS.out _ B2.out).mono ?_
  rintro e w3 ⟨vs, rfl, hvs, hb3⟩
  have B3 : Hid (Below w.heap.size w (w3.alloc (dgO 0 fs ts))) := (B2.out.trans (hb3.mono B2.out.size)).alloc (B2.out.trans (hb3.mono B2.out.size)).size _
  have A3 : Hid (TkS (w3.alloc (dgO 0 fs ts)) va la) := (A2.out.below hb3 (Nat.le_refl _)).below ((Below.refl _ w3).alloc (Nat.le_refl _) _) (Nat.le_refl _)
  have A3b : Hid (TkS (w3.alloc (dgO 0 fs ts)) vb lb) := (A2b.out.below hb3 (Nat.le_refl _)).below ((Below.refl _ w3).alloc (Nat.le_refl _) _) (Nat.le_refl _)
  have A3s : Hid (TkS (w3.alloc (dgO 0 fs ts)) vs ls) := hvs.below ((Below.refl _ w3).alloc (Nat.le_refl _) _) (Nat.le_refl _)
  obtain ⟨x0, x1, x2, x3⟩ := dg_cells (keep_new (keep_block X2.out hb3) (dgO 0 fs ts))
  obtain ⟨y0, y1, y2, y3⟩ := dg_cells (keep_new (keep_block (at_dg w2 0 fb tb) hb3) (dgO 0 fs ts))
  obtain ⟨z0, z1, z2, z3⟩ := dg_cells (at_dg w3 0 fs ts)
  clear hb3 hvs
  unfold dgO at x0 x1 x2 x3 y0 y1 y2 y3 z0 z1 z2 z3
  have hsa : la.length = nr + 1 := by rw [hla, hr]; simp
  have hss : ls.length = nr + nb := by rw [hls, hr, hnb]; simp
  obtain ⟨ga, ka, rfl, hka, hka2, ca⟩ := tks_some A3.out (by omega)
  obtain ⟨gb, kb, rfl, hkb, hkb2, cb⟩ := tks_some A3b.out (by omega)
  obtain ⟨gs, ks, rfl, hks, hks2, cs⟩ := tks_some A3s.out (by omega)
  have CA : Hid (Cel (w3.alloc (dgO 0 fs ts)) ga la) := ca
  have CB : Hid (Cel (w3.alloc (dgO 0 fs ts)) gb lb) := cb
  have CS : Hid (Cel (w3.alloc (dgO 0 fs ts)) gs ls) := cs
  have LA : Hid (la = r ++ [ea]) := hla
  have LS : Hid (ls = r ++ lb.map (shT M)) := hls
  have LR : Hid (nr = r.length) := hr
  have LB : Hid (nb = lb.length) := hnb
  rw [hsa] at hka ⊢
  rw [hss] at hks ⊢
  rw [← hnb] at hkb ⊢
  clear ca cb cs hla hls hr hnb hsa hss A1 A2 A2b A3 A3b A3s X2
  have c42 := cells42
  have hq := neq_tk
  obtain ⟨W0, hW0⟩ : ∃ W, W = w3.alloc (dgO 0 fs ts) := ⟨_, rfl⟩
  have HW0 : Hid (W0 = w3.alloc (dgO 0 fs ts)) := hW0
  rw [← hW0] at B3 CA CB CS
  clear hW0
  have hcmp : (((nr : Int) + (nb : Int)) != ((nr : Int) + 1 + (nb : Int) - 1)) = false := by simp; omega
  have hcm1 : ¬ ((nr : Int) + 1 < 1) := by omega
  go_wp2
  clear x0 x1 x2 x3 y0 y1 y2 y3 z0 z1 z2 z3
  go_loopw [81] (fun i wx => ∃ k m : Nat, k ≤ nr ∧ i = .int .i64 k ∧ wx = W0.drewN m) (fun i _ => nr - (intOf i).toNat)
  case atStart => exact ⟨0, 0, Nat.zero_le _, rfl, HW0.out.symm⟩
  case round =>
    obtain ⟨k, m, hk, rfl, rfl⟩ := hrel
    by_cases hlt : k < nr
    · obtain ⟨x, hx⟩ : ∃ x, r[k]? = some x := ⟨_, List.getElem?_eq_getElem (by have := LR.out; omega)⟩
      have hkr : k < r.length := by have := LR.out; omega
      obtain ⟨a0, a1, a2, a3, a4⟩ := tk_cells CA.out (show la[k]? = some x by rw [LA.out, List.getElem?_append_left hkr]; exact hx)
      obtain ⟨b0, b1, b2, b3, b4⟩ := tk_cells CS.out (show ls[k]? = some x by rw [LS.out, List.getElem?_append_left hkr]; exact hx)
      clear hx hkr
      go_wp2
      go_quiet (fail)
      go_wp2
      exact ⟨⟨k + 1, m + nq, by omega, by go_num, rfl⟩, by simp [intOf]; omega⟩
    · obtain rfl : k = nr := by omega
      go_wp2
      go_loopw [96] (fun i wx => ∃ j : Nat, j ≤ nb ∧ i = .int .i64 j ∧ Below W0.heap.size W0 wx) (fun i _ => nb - (intOf i).toNat)
      case atStart => exact ⟨0, Nat.zero_le _, rfl, below_drewN (Below.refl _ _) m⟩
      case round =>
        obtain ⟨j, hj, rfl, hB⟩ := hrel
        have HBx : Hid (Below W0.heap.size W0 wr) := hB
        clear hB
        by_cases hlt2 : j < nb
        · obtain ⟨y, hy⟩ : ∃ y, lb[j]? = some y := ⟨_, List.getElem?_eq_getElem (by have := LB.out; omega)⟩
          have hz : ls[k + j]? = some (shT M y) := by
            have := LR.out
            rw [LS.out, List.getElem?_append_right (by omega), show k + j - r.length = j by omega, List.getElem?_map, hy]
            rfl
          have HPC : Hid (∀ W, Below W0.heap.size W0 W → (W.cell? ⟨gb, j * 5, none⟩ = some (.int .i64 y.k) ∧ W.cell? ⟨gb, j * 5 + 1, none⟩ = some (.string y.t) ∧ W.cell? ⟨gb, j * 5 + 2, none⟩ = some (.int .i64 y.v) ∧ W.cell? ⟨gb, j * 5 + 3, none⟩ = some (.int .i64 y.fr) ∧ W.cell? ⟨gb, j * 5 + 4, none⟩ = some (.int .i64 y.en)) ∧ (W.cell? ⟨gs, (k + j) * 5, none⟩ = some (.int .i64 y.k) ∧ W.cell? ⟨gs, (k + j) * 5 + 1, none⟩ = some (.string y.t) ∧ W.cell? ⟨gs, (k + j) * 5 + 2, none⟩ = some (.int .i64 y.v) ∧ W.cell? ⟨gs, (k + j) * 5 + 3, none⟩ = some (.int .i64 ((M + y.fr : Nat) : Int)) ∧ W.cell? ⟨gs, (k + j) * 5 + 4, none⟩ = some (.int .i64 ((M + y.en : Nat) : Int)))) := fun W hW => ⟨tk_cells (CB.out.below hW) hy, tk_cells (CS.out.below hW) hz⟩
          clear hy hz
          obtain ⟨V', hV⟩ : ∃ V', (if y.k = 3 then y.v else 0) = V' := ⟨_, rfl⟩
          have HP : Hid (∀ W f e, Below W0.heap.size W0 W → Calls Tryd.prog 6 #[.agg #[.int .i64 y.k, .string y.t, .int .i64 y.v, .int .i64 f, .int .i64 e]] W fun e w' => e = .returned (.agg #[.int .i64 y.k, .string y.t, .int .i64 V', .int .i64 0, .int .i64 0]) ∧ Below W0.heap.size W0 w') := fun W f e hW => (plain6 y.k y.v f e y.t W).mono fun e' w' h => ⟨by rw [h.1, hV], hW.trans (h.2.mono hW.size)⟩
          clear hV
          generalize ((M + y.fr : Nat) : Int) = F1 at *
          generalize ((M + y.en : Nat) : Int) = E1 at *
          generalize ((y.fr : Nat) : Int) = F2 at *
          generalize ((y.en : Nat) : Int) = E2 at *
          generalize y.k = K at *
          generalize y.t = T at *
          generalize y.v = V at *
          obtain ⟨q, hq0⟩ : ∃ q, q = k + j := ⟨_, rfl⟩
          rw [← hq0] at HPC
          have hq1 : (k : Int) + 1 - 1 + (j : Int) = (q : Int) := by omega
          have hq2 : (k : Int) + (j : Int) = (q : Int) := by omega
          have hq3 : (q : Int) < (k : Int) + (nb : Int) := by omega
          have hq4 : q < k + nb := by omega
          have hq5 : q ≤ 200000 := by omega
          clear hq0
          have hwk : IntKind.i64.wrap (k : Int) = (k : Int) := by simp [IntKind.wrap, IntKind.bits, IntKind.signed]; omega
          have hwq : IntKind.i64.wrap (q : Int) = (q : Int) := by simp [IntKind.wrap, IntKind.bits, IntKind.signed]; omega
          have hwk1 : IntKind.i64.wrap ((k : Int) + 1 - 1) = (k : Int) := by simp [IntKind.wrap, IntKind.bits, IntKind.signed]; omega
          have hwkj : IntKind.i64.wrap ((k : Int) + (j : Int)) = (q : Int) := by rw [hq2]; exact hwq
          have hq6 : (0 : Int) ≤ (q : Int) := by omega
          have hq7 : (q : Int) < ((k + nb : Nat) : Int) := by omega
          have hj6 : (0 : Int) ≤ (j : Int) := by omega
          have hj7 : (j : Int) < (nb : Int) := by omega
          obtain ⟨⟨c0, c1, c2, c3, c4⟩, d0, d1, d2, d3, d4⟩ := HPC.out wr HBx.out
          go_wp2
          go_region_held3 (fun w' => Below W0.heap.size W0 w' ∧ w'.cell? ⟨gb, j * 5, none⟩ = some (.int .i64 K) ∧ w'.cell? ⟨gb, j * 5 + 1, none⟩ = some (.string T) ∧ w'.cell? ⟨gb, j * 5 + 2, none⟩ = some (.int .i64 V) ∧ w'.cell? ⟨gb, j * 5 + 3, none⟩ = some (.int .i64 F2) ∧ w'.cell? ⟨gb, j * 5 + 4, none⟩ = some (.int .i64 E2) ∧ w'.cell? ⟨gs, q * 5, none⟩ = some (.int .i64 K) ∧ w'.cell? ⟨gs, q * 5 + 1, none⟩ = some (.string T) ∧ w'.cell? ⟨gs, q * 5 + 2, none⟩ = some (.int .i64 V) ∧ w'.cell? ⟨gs, q * 5 + 3, none⟩ = some (.int .i64 F1) ∧ w'.cell? ⟨gs, q * 5 + 4, none⟩ = some (.int .i64 E1)) (first | assumption | (refine ⟨?_, ?_, ?_, ?_, ?_, ?_, ?_, ?_, ?_, ?_, ?_⟩ <;> (first | assumption | (exact HBx.out) | (exact HBx.out.trans ⟨rfl, rfl, rfl, Nat.le_refl _, fun _ _ => rfl⟩) | (simp; done) | (simp; assumption)))) (first | (go_at_call 6; refine (HP.out _ _ _ (by first | exact HBx.out.trans ⟨rfl, rfl, rfl, Nat.le_refl _, fun _ _ => rfl⟩ | assumption | exact And.left (by assumption))).mono ?_; rintro e w4 ⟨rfl, hB4⟩; obtain ⟨⟨e0, e1, e2, e3, e4⟩, f0, f1, f2, f3, f4⟩ := HPC.out w4 hB4))
          go_wp2
          exact ⟨⟨j + 1, by omega, by simp, by first | assumption | exact And.left (by assumption)⟩, by simp [intOf]; omega⟩
        · obtain rfl : j = nb := by omega
          have B4 : Hid (Below w.heap.size w wr) := B3.out.trans (HBx.out.mono B3.out.size)
          go_wp2_with fail
          refine (H4.out _ B4.out).mono ?_
          rintro e w4 ⟨rfl, hb⟩
          have B5 : Hid (Below w.heap.size w w4) := B4.out.trans (hb.mono B4.out.size)
          clear hb
          go_wp2
          go_ret
          exact ⟨rfl, B5.out⟩
theorem law3 (a b : ByteArray) (w : World) (hT : Tb w) (ha : a.size ≤ 140737488355328) (hb : b.size ≤ 140737488355328) : Calls Tryd.prog 3 #[.string a, .string b] w fun e w' => e = .returned (.bool true) ∧ Below w.heap.size w w' := by
  have H4 : Hid (∀ W, Below w.heap.size w W → Calls Tryd.prog 4 #[] W fun e w' => e = .returned (.bool true) ∧ Below W.heap.size W w') := fun W hW => small12 W (hT.below hW (Nat.le_refl _))
  by_cases hab : a.size + b.size ≤ 60000
  · have hz : (a ++ mid ++ b).size = a.size + 8 + b.size := by rw [app_size, app_size]; rfl
    have HA : ∀ W, Below w.heap.size w W → Cut a (cR (tokR a)) (fR (tokR a)) (tR (tokR a)) (lstR (tokR a)) W := fun W hW => cut_of a w W hT hW ha
    have HB : ∀ W, Below w.heap.size w W → Cut b (cR (tokR b)) (fR (tokR b)) (tR (tokR b)) (lstR (tokR b)) W := fun W hW => cut_of b w W hT hW hb
    have HS : ∀ W, Below w.heap.size w W → Cut (a ++ mid ++ b) (cR (tokR (a ++ mid ++ b))) (fR (tokR (a ++ mid ++ b))) (tR (tokR (a ++ mid ++ b))) (lstR (tokR (a ++ mid ++ b))) W := fun W hW => cut_of _ w W hT hW (by omega)
    obtain ⟨t1, t2, t3⟩ := tokR_whole a b hab
    cases hra : tokR a with
    | bad e x y =>
      obtain ⟨e', x', y', hrs⟩ := t1 e x y hra
      rw [hra] at HA
      rw [hrs] at HS
      exact law_bad1 a b w hab _ _ _ _ _ _ _ _ _ _ _ _ HA HB HS H4 (tokR_nz hra) (tokR_nz hrs)
    | ok l =>
      rw [hra] at HA
      cases hrb : tokR b with
      | bad e x y =>
        obtain ⟨e', x', y', hrs⟩ := t2 l e x y hra hrb
        rw [hrb] at HB
        rw [hrs] at HS
        exact law_bad2 a b w hab _ _ _ _ _ _ _ _ _ _ _ _ HA HB HS H4 rfl (tokR_nz hrb) (tokR_nz hrs)
      | ok m =>
        obtain ⟨r, e1, hrs⟩ := t3 l m hra hrb
        rw [hrb] at HB
        rw [hrs] at HS
        have k1 := tokR_len hra
        have k2 := tokR_len hrb
        have k3 : r.length ≤ l.length := by rw [e1]; simp
        exact law_ok a b w hab _ _ _ _ _ _ _ _ _ HA HB HS H4 r.length m.length (a.size + 8) (endT a) r e1 rfl rfl rfl (by omega) k2.1 k2.2
  · exact law_far a b w hab ha hb H4
end Go.Proofs.YtgdbfedagdlgkabDoor
