/- A word that is not there. A block is given back, in whatever run. One step: loads, stores, blocks given back. -/
import Derived.Test.YtdppoblbenbafaaGreatDoorYAW
import Derived.Test.YtdppoblbenbafaaGreatDoorYAO
import Derived.Test.YtdppoblbenbafaaGreatDoorYAV
namespace Go.Proofs.YtdppoblbenbafaaGreatDoor
section
open Go.RowKit Go.Shelf
set_option maxRecDepth 20000
set_option maxHeartbeats 4000000
theorem do_store_none (R C ca n q m rc x o j a : Nat) (va nn : Int) (w : World) (h3 : w.cell? ⟨R, 3, none⟩ = some (.slice (some ⟨C, 0, none⟩) (n + 1) ca)) (hn : n < 1000000) (c1 : w.cell? ⟨C, n * 7 + 1, none⟩ = some (.slice (some ⟨q, 0, none⟩) m rc)) (c5 : w.cell? ⟨C, n * 7 + 5, none⟩ = some (.int .i64 j)) (z5 : w.frozen? ⟨C, n * 7 + 5, none⟩ = false) (hj : j < 1000000) (i0 : w.cell? ⟨x, o, none⟩ = some (.int .i64 5)) (i2 : w.cell? ⟨x, o + 2, none⟩ = some (.int .i64 a)) (i4 : w.cell? ⟨x, o + 4, none⟩ = some (.int .i64 nn)) (ha : a < m) (qa : w.cell? ⟨q, a, none⟩ = some (.int .i64 va)) (hw : ∀ W, Below (w.setCell ⟨C, n * 7 + 5, none⟩ (.int .i64 ((j : Int) + 1))).heap.size (w.setCell ⟨C, n * 7 + 5, none⟩ (.int .i64 ((j : Int) + 1))) W → Calls Tryz.prog 100 #[.pointer (some ⟨R, 0, none⟩), .int .i64 (IntKind.i64.wrap (va + nn))] W fun e w' => e = .returned (.pointer none) ∧ ∃ w1, Below W.heap.size W w1 ∧ w' = (w1.setCell ⟨R, 9, none⟩ (.int .i64 3)).setCell ⟨R, 10, none⟩ (.int .i64 0)) (nxC : x ≠ C) (nqC : q ≠ C) (nxR : x ≠ R) (nqR : q ≠ R) (nCR : C ≠ R) : Calls Tryz.prog 72 #[.pointer (some ⟨R, 0, none⟩), .pointer (some ⟨x, o, none⟩)] w fun e w' => e = .returned (.tuple #[]) ∧ ∃ w1, Below (w.setCell ⟨C, n * 7 + 5, none⟩ (.int .i64 ((j : Int) + 1))).heap.size (w.setCell ⟨C, n * 7 + 5, none⟩ (.int .i64 ((j : Int) + 1))) w1 ∧ w' = (w1.setCell ⟨R, 9, none⟩ (.int .i64 3)).setCell ⟨R, 10, none⟩ (.int .i64 0) := by
  have hI : Hid (Calls Tryz.prog 98 #[.pointer (some ⟨R, 0, none⟩)] w fun e w' => e = .returned (.pointer (some ⟨C, n * 7, none⟩)) ∧ ∃ k, w' = w.drewN k) := innermost41g R C ca n w h3 hn
  have ej : IntKind.i64.wrap ((j : Int) + 1) = (j : Int) + 1 := by exact wrapI _ (by omega) (by omega)
  have e1 : ¬ x = C := nxC
  have e2 : ¬ C = x := fun e => nxC e.symm
  have i0' := dcell i0
  have c5' := dcell c5
  have z5' : ∀ k, (w.drewN k).frozen? ⟨C, n * 7 + 5, none⟩ = false := fun _ => z5
  have oth : ∀ b t v', b ≠ C → w.cell? ⟨b, t, none⟩ = some v' → (w.setCell ⟨C, n * 7 + 5, none⟩ (.int .i64 ((j : Int) + 1))).cell? ⟨b, t, none⟩ = some v' := fun b t v' hb h => by rw [World.cell?_of_block ((grown_set w C (n * 7 + 5) _).block b (World.block_lt_of_cell? _ _ h) (fun e => hb (by cases e; rfl)))]; exact h
  have HF : Hid (∀ W, Below (w.setCell ⟨C, n * 7 + 5, none⟩ (.int .i64 ((j : Int) + 1))).heap.size (w.setCell ⟨C, n * 7 + 5, none⟩ (.int .i64 ((j : Int) + 1))) W → W.cell? ⟨C, n * 7 + 1, none⟩ = some (.slice (some ⟨q, 0, none⟩) m rc) ∧ W.cell? ⟨x, o + 2, none⟩ = some (.int .i64 a) ∧ W.cell? ⟨x, o + 4, none⟩ = some (.int .i64 nn) ∧ W.cell? ⟨q, a, none⟩ = some (.int .i64 va)) := fun W hW => by
    have key : ∀ b t v', (w.setCell ⟨C, n * 7 + 5, none⟩ (.int .i64 ((j : Int) + 1))).cell? ⟨b, t, none⟩ = some v' → W.cell? ⟨b, t, none⟩ = some v' := fun b t v' h => by rw [hW.cell (p := ⟨b, t, none⟩) (World.block_lt_of_cell? _ _ h)]; exact h
    have k1 : (w.setCell ⟨C, n * 7 + 5, none⟩ (.int .i64 ((j : Int) + 1))).cell? ⟨C, n * 7 + 1, none⟩ = some (.slice (some ⟨q, 0, none⟩) m rc) := by
      have h := c1
      go_simp
    exact ⟨key _ _ _ k1, key _ _ _ (oth _ _ _ nxC i2), key _ _ _ (oth _ _ _ nxC i4), key _ _ _ (oth _ _ _ nqC qa)⟩
  have HW : Hid (∀ W, Below (w.setCell ⟨C, n * 7 + 5, none⟩ (.int .i64 ((j : Int) + 1))).heap.size (w.setCell ⟨C, n * 7 + 5, none⟩ (.int .i64 ((j : Int) + 1))) W → Calls Tryz.prog 100 #[.pointer (some ⟨R, 0, none⟩), .int .i64 (IntKind.i64.wrap (va + nn))] W fun e w' => e = .returned (.pointer none) ∧ ∃ w1, Below W.heap.size W w1 ∧ w' = (w1.setCell ⟨R, 9, none⟩ (.int .i64 3)).setCell ⟨R, 10, none⟩ (.int .i64 0)) := hw
  have HN : Hid (x ≠ R ∧ q ≠ R ∧ C ≠ R) := ⟨nxR, nqR, nCR⟩
  clear hw oth h3 c1 c5 i0 i2 i4 qa z5 nxC nqC nxR nqR nCR
  go_enter Tryz.func72, Tryz.ntmps72
  go_wp2_with fail
  refine hI.out.mono ?_
  rintro e w1 ⟨rfl, n1, rfl⟩
  have HB0 : Hid (Below (w.setCell ⟨C, n * 7 + 5, none⟩ (.int .i64 ((j : Int) + 1))).heap.size (w.setCell ⟨C, n * 7 + 5, none⟩ (.int .i64 ((j : Int) + 1))) ((w.drewN n1).setCell ⟨C, n * 7 + 5, none⟩ (.int .i64 ((j : Int) + 1)))) := below_drewN (Below.refl _ _) n1
  go_wp2
  generalize hV : ((w.drewN n1).setCell ⟨C, n * 7 + 5, none⟩ (.int .i64 ((j : Int) + 1))) = V at *
  clear hV
  have HS : Hid (∀ W, Below V.heap.size V W → W.cell? ⟨C, n * 7 + 1, none⟩ = some (.slice (some ⟨q, 0, none⟩) m rc) ∧ W.cell? ⟨x, o + 2, none⟩ = some (.int .i64 a) ∧ W.cell? ⟨x, o + 4, none⟩ = some (.int .i64 nn) ∧ W.cell? ⟨q, a, none⟩ = some (.int .i64 va)) := fun W hW => HF.out W (HB0.out.trans (hW.mono HB0.out.size))
  have HS2 : Hid (∀ W, Below V.heap.size V W → ((W.setCell ⟨R, 9, none⟩ (.int .i64 3)).setCell ⟨R, 10, none⟩ (.int .i64 0)).cell? ⟨C, n * 7 + 1, none⟩ = some (.slice (some ⟨q, 0, none⟩) m rc) ∧ ((W.setCell ⟨R, 9, none⟩ (.int .i64 3)).setCell ⟨R, 10, none⟩ (.int .i64 0)).cell? ⟨x, o + 2, none⟩ = some (.int .i64 a) ∧ ((W.setCell ⟨R, 9, none⟩ (.int .i64 3)).setCell ⟨R, 10, none⟩ (.int .i64 0)).cell? ⟨x, o + 4, none⟩ = some (.int .i64 nn) ∧ ((W.setCell ⟨R, 9, none⟩ (.int .i64 3)).setCell ⟨R, 10, none⟩ (.int .i64 0)).cell? ⟨q, a, none⟩ = some (.int .i64 va)) := fun W hW => by
    obtain ⟨y1, y2, y3, y4⟩ := HS.out W hW
    have far : ∀ b t v', b ≠ R → W.cell? ⟨b, t, none⟩ = some v' → ((W.setCell ⟨R, 9, none⟩ (.int .i64 3)).setCell ⟨R, 10, none⟩ (.int .i64 0)).cell? ⟨b, t, none⟩ = some v' := fun b t v' hb h => by
      rw [World.cell?_of_block ((((Onl.of_below (Below.refl _ W)).set (S := fun b => b = R) rfl).set rfl).block b (World.block_lt_of_cell? _ _ h) hb)]
      exact h
    exact ⟨far _ _ _ HN.out.2.2 y1, far _ _ _ HN.out.1 y2, far _ _ _ HN.out.1 y3, far _ _ _ HN.out.2.1 y4⟩
  have HC : Hid (Calls Tryz.prog 100 #[.pointer (some ⟨R, 0, none⟩), .int .i64 (IntKind.i64.wrap (va + nn))] V.drew fun e w' => e = .returned (.pointer none) ∧ ∃ w1, Below V.heap.size V w1 ∧ w' = (w1.setCell ⟨R, 9, none⟩ (.int .i64 3)).setCell ⟨R, 10, none⟩ (.int .i64 0)) := (HW.out V.drew HB0.out.drew).mono fun e w' h => ⟨h.1, h.2.imp fun w1 h => ⟨(Below.refl V.heap.size V).drew.trans h.1, h.2⟩⟩
  clear hI i0' c5' z5' ej e1 e2 HW
  go_region_held3 (fun W => W.cell? ⟨C, n * 7 + 1, none⟩ = some (.slice (some ⟨q, 0, none⟩) m rc) ∧ W.cell? ⟨x, o + 2, none⟩ = some (.int .i64 a) ∧ W.cell? ⟨x, o + 4, none⟩ = some (.int .i64 nn) ∧ W.cell? ⟨q, a, none⟩ = some (.int .i64 va)) (first | exact HS2.out _ HB2.out | exact HS.out _ (Below.refl _ _).drew) (first | (go_at_call 100; refine HC.out.mono ?_; rintro e w2 ⟨rfl, w3, hb, rfl⟩; have HB2 : Hid (Below V.heap.size V w3) := hb; clear hb))
  go_wp2
  go_returns
  exact ⟨rfl, w3, HB0.out.trans (HB2.out.mono HB0.out.size), rfl⟩
end
section
open Go.RowKit Go.Shelf
set_option maxRecDepth 20000
set_option maxHeartbeats 2000000
theorem free_yes (R P pa len : Nat) (t c : Int) (l : List Pt) (r : Rs) (w : World) (hR : Rb w R r) (hP : Prt w P l len) (hpv : r.pv = .slice (some ⟨P, 0, none⟩) l.length pa) (hpa : l.length ≤ pa) (e0 : 0 ≤ r.en) (e1 : r.en ≤ 900000) (hn : l.length ≤ 1000000) (hok : (enP l r.en 2 t c).1 = true) (hc : 0 ≤ c ∧ c ≤ 1000000) (hh : 0 ≤ r.hp ∧ r.hp ≤ 1000000) : Calls Tryz.prog 136 #[.pointer (some ⟨R, 0, none⟩), .int .i64 t, .int .i64 c] w fun e w' => e = .returned (.int .i64 0) ∧ ∃ w2, Onl (fun b => b = R ∨ b = P) w w2 ∧ Rb w2 R { r with pv := .slice (some ⟨P, 0, none⟩) (enP l r.en 2 t c).2.1.length pa, en := (enP l r.en 2 t c).2.2 } ∧ Prt w2 P (enP l r.en 2 t c).2.1 len ∧ w' = w2.setCell ⟨R, 7, none⟩ (.int .i64 (r.hp - c)) := by
  have HE := end_any R P pa len 2 t c l r w hR hP hpv hpa e0 e1 hn
  rw [hok] at HE
  have HE : Hid (Calls Tryz.prog 137 #[.pointer (some ⟨R, 4, none⟩), .int .i64 2, .int .i64 t, .int .i64 c] w fun e w' => e = .returned (.bool true) ∧ Onl (fun b => b = R ∨ b = P) w w' ∧ Rb w' R { r with pv := .slice (some ⟨P, 0, none⟩) (enP l r.en 2 t c).2.1.length pa, en := (enP l r.en 2 t c).2.2 } ∧ Prt w' P (enP l r.en 2 t c).2.1 len) := HE
  have ew : IntKind.i64.wrap (r.hp - c) = r.hp - c := wrapI _ (by omega) (by omega)
  have ec : IntKind.i64.wrap c = c := wrapI _ (by omega) (by omega)
  clear hR hP hpv hpa e0 e1 hn hok hc hh
  generalize enP l r.en 2 t c = E at *
  go_enter Tryz.func136, Tryz.ntmps136
  go_wp2_with fail
  refine HE.out.mono ?_
  rintro e w2 ⟨rfl, h1, h2, h3⟩
  have H : Hid (Onl (fun b => b = R ∨ b = P) w w2 ∧ Rb w2 R { r with pv := .slice (some ⟨P, 0, none⟩) E.2.1.length pa, en := E.2.2 } ∧ Prt w2 P E.2.1 len) := ⟨h1, h2, h3⟩
  have r7 := h2.cell (j := 7) rfl
  have z7 := h2.fz 7
  clear h1 h2 h3
  go_wp2
  go_ret
  exact ⟨rfl, w2, H.out.1, H.out.2.1, H.out.2.2, rfl⟩
theorem free_no (R P pa len : Nat) (t c : Int) (l : List Pt) (r : Rs) (w : World) (hR : Rb w R r) (hP : Prt w P l len) (hpv : r.pv = .slice (some ⟨P, 0, none⟩) l.length pa) (hpa : l.length ≤ pa) (e0 : 0 ≤ r.en) (e1 : r.en ≤ 900000) (hn : l.length ≤ 1000000) (hok : (enP l r.en 2 t c).1 = false) : Calls Tryz.prog 136 #[.pointer (some ⟨R, 0, none⟩), .int .i64 t, .int .i64 c] w fun e w' => e = .returned (.int .i64 0) ∧ ∃ w2, Onl (fun b => b = R ∨ b = P) w w2 ∧ Rb w2 R { r with pv := .slice (some ⟨P, 0, none⟩) (enP l r.en 2 t c).2.1.length pa, en := (enP l r.en 2 t c).2.2 } ∧ Prt w2 P (enP l r.en 2 t c).2.1 len ∧ w' = (w2.setCell ⟨R, 9, none⟩ (.int .i64 3)).setCell ⟨R, 10, none⟩ (.int .i64 0) := by
  have HE := end_any R P pa len 2 t c l r w hR hP hpv hpa e0 e1 hn
  rw [hok] at HE
  have HE : Hid (Calls Tryz.prog 137 #[.pointer (some ⟨R, 4, none⟩), .int .i64 2, .int .i64 t, .int .i64 c] w fun e w' => e = .returned (.bool false) ∧ Onl (fun b => b = R ∨ b = P) w w' ∧ Rb w' R { r with pv := .slice (some ⟨P, 0, none⟩) (enP l r.en 2 t c).2.1.length pa, en := (enP l r.en 2 t c).2.2 } ∧ Prt w' P (enP l r.en 2 t c).2.1 len) := HE
  clear hR hP hpv hpa e0 e1 hn hok
  generalize enP l r.en 2 t c = E at *
  go_enter Tryz.func136, Tryz.ntmps136
  go_wp2_with fail
  refine HE.out.mono ?_
  rintro e w2 ⟨rfl, h1, h2, h3⟩
  have H : Hid (Onl (fun b => b = R ∨ b = P) w w2 ∧ Rb w2 R { r with pv := .slice (some ⟨P, 0, none⟩) E.2.1.length pa, en := E.2.2 } ∧ Prt w2 P E.2.1 len) := ⟨h1, h2, h3⟩
  clear h1 h2 h3
  go_wp2_with (first | (go_at_call 71; refine (end36 R 3 0 (rsC { r with pv := .slice (some ⟨P, 0, none⟩) E.2.1.length pa, en := E.2.2 }) _ H.out.2.1.cl rfl).mono ?_; rintro e w' ⟨rfl, rfl⟩))
  go_ret
  exact ⟨rfl, w2, H.out.1, H.out.2.1, H.out.2.2, rfl⟩
end
section
open Go.RowKit Go.Shelf
variable {p : List Fun} {pp : Option Addr} {pc : Nat} {W0 : World} {R m1 m2 : Nat} {r : Rs} {C ca P pa : Nat} {gl : List (Nat × Cal)} {gp : List (Nat × Par)} {W : World} {s : St} {tq : Nat} {lq : List (Nat × Cal)} {c : Cal} {f : Fun} {bl : Blk} {i : Ins} {g1 o1 bc g2 o2 ic : Nat}
theorem ptO_at (x : Nat × Par) : (ptO x).at_ = x.2.ad ∧ (ptO x).wn = (kyA x.2).2.2 := by
  unfold ptO kyA
  split <;> simp [*]
theorem woP_key (gp : List (Nat × Par)) (t : Int) : woP (gp.map ptO) t = woS (gp.map (·.2)) t := by
  unfold woP woS
  rw [fdP_key, List.map_map, List.map_map, show kyP ∘ ptO = kyA ∘ (·.2) from funext ptO_key]
  cases fdK (gp.map (kyA ∘ (·.2))) t with
  | zero => rfl
  | succ k =>
    simp only [List.getElem?_map]
    cases gp[k]? with
    | none => rfl
    | some x => simp only [Option.map_some, (ptO_at x).1, (ptO_at x).2]
/-- Where a word is, as it lies. -/
theorem word_at_gp (h : RelD p pp pc W0 R m1 m2 r C ca P pa gl gp W s) (hn : gp.length ≤ 1000000) {t : Int} (h64 : I64 t) (had : ∀ x ∈ s.ps, 0 ≤ x.ad) : (woS s.ps t = none ∧ ∀ W', Below W.heap.size W W' → Calls Tryz.prog 131 #[.pointer (some ⟨R, 4, none⟩), .int .i64 t] W' fun e w' => e = .returned (.pointer none) ∧ Below W'.heap.size W' w') ∨ ∃ k m y, woS s.ps t = some (k, m) ∧ gp[k]? = some y ∧ ¬ y.2.kd = 0 ∧ m < y.2.ws.length ∧ ∀ W', Below W.heap.size W W' → Calls Tryz.prog 131 #[.pointer (some ⟨R, 4, none⟩), .int .i64 t] W' fun e w' => e = .returned (.pointer (some ⟨y.1, m, none⟩)) ∧ Below W'.heap.size W' w' := by
  have hat : ∀ q ∈ gp.map ptO, 0 ≤ q.at_ := fun q hq => by
    obtain ⟨x, hx, rfl⟩ := List.mem_map.1 hq
    rw [(ptO_at x).1]
    exact had _ (by rw [← h.gs]; exact List.mem_map.2 ⟨x, hx, rfl⟩)
  have hwa : ∀ q ∈ gp.map ptO, 0 < q.wn → ∃ g, q.wa = some ⟨g, 0, none⟩ := fun q hq hw => by
    obtain ⟨x, hx, rfl⟩ := List.mem_map.1 hq
    unfold ptO at hw ⊢
    split
    · rename_i h0; rw [if_pos h0] at hw; exact absurd hw (Nat.lt_irrefl _)
    · exact ⟨_, rfl⟩
  have A := fun (W' : World) (hb : Below W.heap.size W W') => word_any R P pa (pa * 3) t (gp.map ptO) r W' (h.grow hb).rb (h.grow hb).prt.1 (h.grow hb).prt.2.1 (by rw [List.length_map]; exact hn) h64 hat hwa
  have E : woP (gp.map ptO) t = woS s.ps t := by rw [woP_key, h.gs]
  cases hw : woS s.ps t with
  | none =>
    refine .inl ⟨rfl, fun W' hb => ?_⟩
    rcases A W' hb with ⟨_, h2⟩ | ⟨k, m, q, g, h1, _⟩
    · exact h2
    · rw [E, hw] at h1; cases h1
  | some km =>
    obtain ⟨k, m⟩ := km
    rcases A W (Below.refl _ _) with ⟨h1, _⟩ | ⟨k', m', q, g, h1, h2, h3, h4, _⟩
    · rw [E, hw] at h1; cases h1
    · rw [E, hw] at h1
      cases h1
      rw [List.getElem?_map] at h2
      obtain ⟨y, hy, ey⟩ := Option.map_eq_some_iff.1 h2
      have hk : ¬ y.2.kd = 0 := fun e => by
        rw [← ey] at h3
        unfold ptO at h3
        rw [if_pos e] at h3
        exact absurd h3 (Nat.not_lt_zero _)
      have hg : g = y.1 ∧ m < y.2.ws.length := by
        rw [← ey] at h3 h4
        unfold ptO at h3 h4
        rw [if_neg hk] at h3 h4
        cases h4
        exact ⟨rfl, h3⟩
      refine .inr ⟨k, m, y, rfl, hy, hk, hg.2, fun W' hb => ?_⟩
      rcases A W' hb with ⟨j1, _⟩ | ⟨k2, m2, q2, g2, j1, j2, j3, j4, j5⟩
      · rw [E, hw] at j1; cases j1
      · rw [E, hw] at j1
        cases j1
        rw [List.getElem?_map, hy] at j2
        cases j2
        unfold ptO at j4
        rw [if_neg hk] at j4
        cases j4
        exact j5
/-- A run that ends with a word that is not there. -/
theorem RelD.undef (h : RelD p pp pc W0 R m1 m2 r C ca P pa gl gp W s) : EndD W0 R ((W.setCell ⟨R, 9, none⟩ (.int .i64 3)).setCell ⟨R, 10, none⟩ (.int .i64 0)) ⟨3, 0, s.out, s.st⟩ := by
  have kR : Onl (fun b => b = R) W ((W.setCell ⟨R, 9, none⟩ (.int .i64 3)).setCell ⟨R, 10, none⟩ (.int .i64 0)) := ((Onl.of_below (Below.refl _ _)).set (S := fun b => b = R) rfl).set rfl
  refine ⟨{ r with fin := 3, cd := 0 }, Onl.below (Nat.le_refl _) h.bel kR (fun b e => by rw [e]; exact h.rB), h.rB, (h.rb.set 9 (.int .i64 3)).set 10 (.int .i64 0), rfl, rfl, h.st, own_onl h.ov kR (fun g hg e => ?_)⟩
  obtain ⟨_, os, hO⟩ := h.bO hg
  exact hO.ne h.rb (by decide) e
theorem step_load (h : RelD p pp pc W0 R m1 m2 r C ca P pa ((tq, s.top) :: lq) gp W s) (hn : lq.length < 1000000) (hgp : gp.length ≤ 1000000) (had : ∀ x ∈ s.ps, 0 ≤ x.ad) (hc : CalF p s.top f bl i) (hj : s.top.j < 1000000) (hF : InsF f.h i (fdF p i.nm)) (hP : InsP W0 W p s.top f bl i g1 o1 bc g2 o2 ic) (hop : i.op = 4) : Calls Tryz.prog 72 #[.pointer (some ⟨R, 0, none⟩), .pointer (some ⟨g2, o2 + s.top.j * 9, none⟩)] W fun e w' => e = .returned (.tuple #[]) ∧ OutD p pp pc W0 R m1 m2 w' (stpS p s i) := by
  have hs := h.stpF
  obtain ⟨c0, cs, hC⟩ := h.bC
  obtain ⟨q0, hQ⟩ := h.rg (tq, s.top) (by simp)
  obtain ⟨d, u, e1, hu, _, _, hd, _⟩ := reg_at hc (hF.dd (by omega))
  obtain ⟨a, va, e2, hva, eva, _, ha, _⟩ := reg_at hc (hF.aa (by omega))
  have i0 := hP.ce 0 _ rfl
  have i1 := hP.ce 1 _ rfl
  have i2 := hP.ce 2 _ rfl
  have i4 := hP.ce 4 _ rfl
  rw [hop] at i0
  rw [e1] at i1
  rw [e2] at i2
  have hx0 := RelD.next h 0
  have est : stpS p s i = (match woS s.ps (wrap64 (va + i.n)) with
    | some (k, m) => .inl { s with top := setR { s.top with j := s.top.j + 1 } i.d (wdAt s.ps k m) }
    | none => .inr ⟨3, 0, s.out, s.st⟩) := by
    unfold stpS
    rw [if_neg (by omega), if_neg (by omega), if_neg (by omega), if_pos hop, show getR { s.top with j := s.top.j + 1 } i.a = va from eva]
    rfl
  rw [est]
  have ngR : g2 ≠ R := by have := h.rB; have := hP.lt; omega
  rcases word_at_gp (s := { s with top := { s.top with j := s.top.j + 1 } }) hx0 hgp (i64_wrap (va + i.n)) had with ⟨w1, w2⟩ | ⟨k, m, y, w1, w2, w3, w4, w5⟩
  · rw [show woS s.ps (wrap64 (va + i.n)) = none from w1]
    refine (do_load_none R C ca lq.length tq s.top.rg.length s.top.rg.length g2 (o2 + s.top.j * 9) s.top.j a va i.n W hs.h3 hn hs.c1 hs.c5 (hs.z _) hj i0 i2 i4 ha (hs.qv a va hva) ?_ (by have := hP.lt; omega) hs.nqC ngR (hQ.ne h.rb (by decide)) (fun e => hs.nRC e.symm)).mono ?_
    · intro W' hb
      rw [wrapE]
      exact rword_none R _ r W' (hx0.grow hb).rb (w2 W' hb)
    · rintro e w' ⟨rfl, v1, hb, rfl⟩
      exact ⟨rfl, RelD.undef (s := { s with top := { s.top with j := s.top.j + 1 } }) (hx0.grow hb)⟩
  · rw [show woS s.ps (wrap64 (va + i.n)) = some (k, m) from w1]
    obtain ⟨y0, y1, y2⟩ := h.wd y (List.mem_of_getElem? w2) w3
    have ew : wdAt s.ps k m = y.2.ws[m] := by
      unfold wdAt
      rw [← h.gs, List.getElem?_map, w2]
      simp [List.getElem?_eq_getElem w4]
    refine (do_load22g R C ca lq.length tq s.top.rg.length s.top.rg.length g2 (o2 + s.top.j * 9) s.top.j d a y.1 m va i.n y.2.ws[m] u W hs.h3 hn hs.c1 hs.c5 (hs.z _) hj i0 i1 i2 i4 hd (hs.qv d u hu) (hs.qz d) ha (hs.qv a va hva) (y1.at (List.getElem?_eq_getElem w4)) ?_ (by have := hP.lt; omega) hs.nqC (y1.ne hC (by decide))).mono ?_
    · intro W' hb
      rw [wrapE]
      exact rword_some R y.1 m _ W' (w5 W' hb)
    · rintro e w' ⟨rfl, W1, hb, rfl⟩
      refine ⟨rfl, ?_⟩
      simp only [ew, e1]
      rw [setR_nat]
      exact ⟨_, _, _, _, _, _, _, RelD.setq (s := { s with top := { s.top with j := s.top.j + 1 } }) (hx0.grow hb) d y.2.ws[m]⟩
theorem nodup_idx {α β : Type} (f : α → β) (Q : α → Bool) : ∀ (l : List α), ((l.filter Q).map f).Nodup → ∀ (i j : Nat) (a b : α), l[i]? = some a → l[j]? = some b → i ≠ j → Q a = true → Q b = true → f a ≠ f b
  | [], _, i, _, _, _, h, _, _, _, _ => by cases h
  | x :: l, h, i, j, a, b, hi, hj, hne, qa, qb => by
    have hl : ((l.filter Q).map f).Nodup := by
      rw [List.filter_cons] at h
      split at h
      · rw [List.map_cons, List.nodup_cons] at h; exact h.2
      · exact h
    have hd : ∀ y, Q x = true → y ∈ l → Q y = true → f x ≠ f y := fun y qx hy qy e => by
      rw [List.filter_cons, if_pos qx, List.map_cons, List.nodup_cons] at h
      exact h.1 (by rw [e]; exact List.mem_map.2 ⟨y, List.mem_filter.2 ⟨hy, qy⟩, rfl⟩)
    cases i with
    | zero =>
      cases j with
      | zero => exact absurd rfl hne
      | succ j => cases hi; exact hd b qa (List.mem_of_getElem? hj) qb
    | succ i =>
      cases j with
      | zero => cases hj; exact fun e => hd a qb (List.mem_of_getElem? hi) qa e.symm
      | succ j => exact nodup_idx f Q l hl i j a b hi hj (fun e => hne (by rw [e])) qa qb
theorem map_set_same {α β : Type} (f : α → β) (l : List α) (k : Nat) (a b : α) (h : l[k]? = some a) (e : f b = f a) : (l.set k b).map f = l.map f := by
  rw [List.map_set, e]
  apply List.ext_getElem?
  intro n
  by_cases hn : k = n
  · subst hn
    have hl := (List.getElem?_eq_some_iff.1 h).1
    rw [List.getElem?_set_self (by simpa using hl), List.getElem?_map, h]
    rfl
  · rw [List.getElem?_set_ne hn]
theorem filter_set_same {α β : Type} (f : α → β) (Q : α → Bool) : ∀ (l : List α) (k : Nat) (a b : α), l[k]? = some a → f b = f a → Q b = Q a → ((l.set k b).filter Q).map f = (l.filter Q).map f
  | [], _, _, _, h, _, _ => by cases h
  | x :: l, 0, a, b, h, e, q => by
    cases h
    rw [List.set_cons_zero, List.filter_cons, List.filter_cons, q]
    split <;> simp [e]
  | x :: l, k + 1, a, b, h, e, q => by
    have := filter_set_same f Q l k a b h e q
    rw [List.set_cons_succ, List.filter_cons, List.filter_cons]
    split <;> simp [this]
/-- A word is set. -/
theorem RelD.wset (h : RelD p pp pc W0 R m1 m2 r C ca P pa gl gp W s) {k m : Nat} {y : Nat × Par} (hy : gp[k]? = some y) (hk : ¬ y.2.kd = 0) (v : Int) : RelD p pp pc W0 R m1 m2 r C ca P pa gl (gp.set k (y.1, { y.2 with ws := y.2.ws.set m v })) (W.setCell ⟨y.1, m, none⟩ (.int .i64 v)) { s with ps := wdSet s.ps k m v } := by
  obtain ⟨y0, y1, y2⟩ := h.wd y (List.mem_of_getElem? hy) hk
  obtain ⟨c0, cs, hC⟩ := h.bC
  obtain ⟨p0, ps, hPb⟩ := h.bP
  obtain ⟨m1c, hm1⟩ := h.h1
  have kq : Onl (fun b => b = y.1) W (W.setCell ⟨y.1, m, none⟩ (.int .i64 v)) := (Onl.of_below (Below.refl _ _)).set rfl
  have hS : ∀ b, b = y.1 → W0.heap.size ≤ b := fun b e => by rw [e]; exact y0
  have ept : ptO (y.1, { y.2 with ws := y.2.ws.set m v }) = ptO y := by unfold ptO; simp
  have eps : gp.map (·.2) = s.ps := h.gs
  refine ⟨Onl.below (Nat.le_refl _) h.bel kq hS, h.rB, h.rb.onl kq (fun e => y1.ne h.rb (by decide) e.symm), h.pg, h.fm, h.om, ⟨m1c, ?_⟩, ?_, h.cv, own_onl h.co kq ?_, by rw [List.length_set]; exact h.pv, ?_, ?_, h.nd, ?_, ?_, h.ls, ?_, h.en, h.nx, h.hp, h.fin, h.cd, h.st, h.iv.below (Onl.below h.bel.size (Below.refl _ _) kq hS), own_onl h.ov kq ?_⟩
  · rw [kq.block m1 (Array.getElem?_eq_some_iff.1 hm1).1 (fun e => bk_nmap y1 hm1 e.symm)]; exact hm1
  · rw [kq.block m2 (Array.getElem?_eq_some_iff.1 h.h2).1 (fun e => bk_nmap y1 h.h2 e.symm)]; exact h.h2
  · intro g hg e
    rw [h.cv] at hg
    cases hg
    exact y1.ne hC (by decide) e.symm
  · rw [List.length_set, map_set_same ptO gp k y _ hy ept]
    refine own_onl h.po kq (fun g hg e => ?_)
    rw [h.pv] at hg
    cases hg
    exact y1.ne hPb (by decide) e.symm
  · intro x hx
    obtain ⟨t1, t2⟩ := h.rg x hx
    exact ⟨t1, t2.onl kq (fun e => y2 (by rw [← e]; exact List.mem_map.2 ⟨x, hx, rfl⟩))⟩
  · intro x hx hx0
    obtain ⟨j, hj, ej⟩ := List.getElem_of_mem hx
    have hj' : (gp.set k (y.1, { y.2 with ws := y.2.ws.set m v }))[j]? = some x := by rw [List.getElem?_eq_getElem hj, ej]
    by_cases hjk : k = j
    · subst hjk
      rw [List.getElem?_set_self (by simpa using hj)] at hj'
      cases hj'
      exact ⟨y0, RgB.set y1 m v, y2⟩
    · rw [List.getElem?_set_ne hjk] at hj'
      obtain ⟨t1, t2, t3⟩ := h.wd x (List.mem_of_getElem? hj') hx0
      have hne := nodup_idx (·.1) lvG gp h.wn j k x y hj' hy (fun e => hjk e.symm) (by simpa [lvG] using hx0) (by simpa [lvG] using hk)
      exact ⟨t1, t2.onl kq (fun e => hne e), t3⟩
  · have := filter_set_same (·.1) lvG gp k y (y.1, { y.2 with ws := y.2.ws.set m v }) hy rfl rfl
    rw [show ((gp.set k (y.1, { y.2 with ws := y.2.ws.set m v })).filter fun x => decide (¬ x.2.kd = 0)) = (gp.set k (y.1, { y.2 with ws := y.2.ws.set m v })).filter lvG from rfl, this]
    exact h.wn
  · show (gp.set k _).map _ = wdSet s.ps k m v
    unfold wdSet
    rw [← eps, List.getElem?_map, hy, List.map_set]
    rfl
  · intro g hg e
    obtain ⟨_, os, hO⟩ := h.bO hg
    exact hO.ne y1 (by decide) e
theorem step_store (h : RelD p pp pc W0 R m1 m2 r C ca P pa ((tq, s.top) :: lq) gp W s) (hn : lq.length < 1000000) (hgp : gp.length ≤ 1000000) (had : ∀ x ∈ s.ps, 0 ≤ x.ad) (hc : CalF p s.top f bl i) (hj : s.top.j < 1000000) (hF : InsF f.h i (fdF p i.nm)) (hP : InsP W0 W p s.top f bl i g1 o1 bc g2 o2 ic) (hop : i.op = 5) : Calls Tryz.prog 72 #[.pointer (some ⟨R, 0, none⟩), .pointer (some ⟨g2, o2 + s.top.j * 9, none⟩)] W fun e w' => e = .returned (.tuple #[]) ∧ OutD p pp pc W0 R m1 m2 w' (stpS p s i) := by
  have hs := h.stpF
  obtain ⟨c0, cs, hC⟩ := h.bC
  obtain ⟨q0, hQ⟩ := h.rg (tq, s.top) (by simp)
  obtain ⟨d, u, e1, hu, eu, _, hd, _⟩ := reg_at hc (hF.bb (by omega))
  obtain ⟨a, va, e2, hva, eva, _, ha, _⟩ := reg_at hc (hF.aa (by omega))
  have i0 := hP.ce 0 _ rfl
  have i1 := hP.ce 3 _ rfl
  have i2 := hP.ce 2 _ rfl
  have i4 := hP.ce 4 _ rfl
  rw [hop] at i0
  rw [e1] at i1
  rw [e2] at i2
  have hx0 := RelD.next h 0
  have est : stpS p s i = (match woS s.ps (wrap64 (va + i.n)) with
    | some (k, m) => .inl { s with top := { s.top with j := s.top.j + 1 }, ps := wdSet s.ps k m u }
    | none => .inr ⟨3, 0, s.out, s.st⟩) := by
    unfold stpS
    rw [if_neg (by omega), if_neg (by omega), if_neg (by omega), if_neg (by omega), if_pos hop, show getR { s.top with j := s.top.j + 1 } i.a = va from eva, show getR { s.top with j := s.top.j + 1 } i.b = u from eu]
    rfl
  rw [est]
  have ngR : g2 ≠ R := by have := h.rB; have := hP.lt; omega
  rcases word_at_gp (s := { s with top := { s.top with j := s.top.j + 1 } }) hx0 hgp (i64_wrap (va + i.n)) had with ⟨w1, w2⟩ | ⟨k, m, y, w1, w2, w3, w4, w5⟩
  · rw [show woS s.ps (wrap64 (va + i.n)) = none from w1]
    refine (do_store_none R C ca lq.length tq s.top.rg.length s.top.rg.length g2 (o2 + s.top.j * 9) s.top.j a va i.n W hs.h3 hn hs.c1 hs.c5 (hs.z _) hj i0 i2 i4 ha (hs.qv a va hva) ?_ (by have := hP.lt; omega) hs.nqC ngR (hQ.ne h.rb (by decide)) (fun e => hs.nRC e.symm)).mono ?_
    · intro W' hb
      rw [wrapE]
      exact rword_none R _ r W' (hx0.grow hb).rb (w2 W' hb)
    · rintro e w' ⟨rfl, v1, hb, rfl⟩
      exact ⟨rfl, RelD.undef (s := { s with top := { s.top with j := s.top.j + 1 } }) (hx0.grow hb)⟩
  · rw [show woS s.ps (wrap64 (va + i.n)) = some (k, m) from w1]
    obtain ⟨y0, y1, y2⟩ := h.wd y (List.mem_of_getElem? w2) w3
    refine (do_store22g R C ca lq.length tq s.top.rg.length s.top.rg.length g2 (o2 + s.top.j * 9) s.top.j d a y.1 m va i.n y.2.ws[m] u W hs.h3 hn hs.c1 hs.c5 (hs.z _) hj i0 i1 i2 i4 hd (hs.qv d u hu) (y1.fz m) ha (hs.qv a va hva) (y1.at (List.getElem?_eq_getElem w4)) ?_ (by have := hP.lt; omega) hs.nqC (y1.ne hC (by decide))).mono ?_
    · intro W' hb
      rw [wrapE]
      exact rword_some R y.1 m _ W' (w5 W' hb)
    · rintro e w' ⟨rfl, W1, hb, rfl⟩
      exact ⟨rfl, _, _, _, _, _, _, _, RelD.wset (s := { s with top := { s.top with j := s.top.j + 1 } }) (hx0.grow hb) w2 w3 u⟩
end
end Go.Proofs.YtdppoblbenbafaaGreatDoor
