/- A word of memory, in whatever run. Loads, stores, blocks given back, in whatever run. A word that is not there. -/
import Derived.Test.YtdppoblbenbafaaGreatDoorYAO
import Derived.Test.YtdppoblbenbafaaGreatDoorYAP
import Derived.Deep.RegionHeld3
namespace Go.Proofs.YtdppoblbenbafaaGreatDoor
section
open Go.RowKit Go.Shelf
set_option maxRecDepth 20000
set_option maxHeartbeats 2000000
/-- Where the word at an address is: the part, the word in it. -/
def woP (l : List Pt) (t : Int) : Option (Nat × Nat) := match fdP l t with
  | 0 => none
  | k + 1 => if t % 8 = 0 then (match l[k]? with
    | none => none
    | some p => if (p.wn : Int) ≤ (t - p.at_) / 8 then none else some (k, ((t - p.at_) / 8).toNat)) else none
theorem bsF_prev (p : Nat → Bool) (i j : Nat) (hp : i = 0 ∨ p (i - 1) = false) : bsF p i j = 0 ∨ p (bsF p i j - 1) = false := by
  unfold bsF
  split
  · split
    · exact bsF_prev p i _ hp
    · rename_i h2
      exact bsF_prev p _ j (.inr (by simpa using h2))
  · exact hp
termination_by j - i
decreasing_by all_goals omega
theorem fdP_le (l : List Pt) (t : Int) {k : Nat} (h : fdP l t = k + 1) : atF l k ≤ t ∧ k < l.length := by
  have h1 := bsF_prev (fun k => decide (t < atF l k)) 0 l.length (.inl rfl)
  have h2 := bsF_le (fun k => decide (t < atF l k)) 0 l.length (Nat.zero_le _)
  unfold fdP at h
  rw [h] at h1 h2
  rcases h1 with h1 | h1
  · omega
  · simp at h1
    exact ⟨h1, by omega⟩
theorem word_none (R P pa len : Nat) (t : Int) (l : List Pt) (r : Rs) (w : World) (hR : Rb w R r) (hP : Prt w P l len) (hpv : r.pv = .slice (some ⟨P, 0, none⟩) l.length pa) (hn : l.length ≤ 1000000) (hf : fdP l t = 0) : Calls Tryz.prog 131 #[.pointer (some ⟨R, 4, none⟩), .int .i64 t] w fun e w' => e = .returned (.pointer none) ∧ Below w.heap.size w w' := by
  have hF := find_any R P pa len t l r w hR hP hpv hn
  rw [hf] at hF
  have HF : Hid (Calls Tryz.prog 153 #[.pointer (some ⟨R, 4, none⟩), .int .i64 t] w fun e w' => e = .returned (.int .i64 (-1)) ∧ Below w.heap.size w w') := hF
  clear hF hR hP hpv hn hf
  go_enter Tryz.func131, Tryz.ntmps131
  go_wp2_with (first | (go_at_call 153; refine HF.out.mono ?_; rintro e w1 ⟨rfl, hb⟩))
  go_ret
  exact ⟨rfl, hb⟩
theorem word_odd (R P pa len k : Nat) (t : Int) (l : List Pt) (p : Pt) (r : Rs) (w : World) (hR : Rb w R r) (hP : Prt w P l len) (hpv : r.pv = .slice (some ⟨P, 0, none⟩) l.length pa) (hn : l.length ≤ 1000000) (hf : fdP l t = k + 1) (hk : l[k]? = some p) (h64 : -9223372036854775808 ≤ t ∧ t ≤ 9223372036854775807) (hat : 0 ≤ p.at_ ∧ p.at_ ≤ t) (h8 : ¬ t % 8 = 0) : Calls Tryz.prog 131 #[.pointer (some ⟨R, 4, none⟩), .int .i64 t] w fun e w' => e = .returned (.pointer none) ∧ Below w.heap.size w w' := by
  have hF := find_any R P pa len t l r w hR hP hpv hn
  rw [hf] at hF
  have HF : Hid (Calls Tryz.prog 153 #[.pointer (some ⟨R, 4, none⟩), .int .i64 t] w fun e w' => e = .returned (.int .i64 (k : Int)) ∧ Below w.heap.size w w') := by
    have e : (((k + 1 : Nat) : Int) - 1) = k := by omega
    rw [e] at hF
    exact hF
  have hkl := (List.getElem?_eq_some_iff.1 hk).1
  have HR : Hid (Rb w R r) := hR
  have HP : Hid (Prt w P l len) := hP
  have HV : Hid (r.pv = .slice (some ⟨P, 0, none⟩) l.length pa) := hpv
  have HK : Hid (l[k]? = some p) := hk
  have hk' : (k : Int) < l.length := by omega
  have hk0 : ¬ ((k : Int) < 0) := by omega
  clear hF hR hP hpv hn hf hk
  have h8' : (t % 8 != 0) = true := by simpa using h8
  go_enter Tryz.func131, Tryz.ntmps131
  go_wp2_with fail
  refine HF.out.mono ?_
  rintro e w1 ⟨rfl, hb⟩
  have HB : Hid (Below w.heap.size w w1) := hb
  obtain ⟨p0, p1, p2⟩ := (HP.out.below hb).pta k p HK.out
  have r4 := (HR.out.below hb).cell (j := 4) (v := .slice (some ⟨P, 0, none⟩) l.length pa) (by rw [← HV.out]; rfl)
  generalize l.length = n at *
  clear hb
  go_wp2
  go_ret
  exact ⟨rfl, HB.out⟩
theorem word_far (R P pa len k : Nat) (t : Int) (l : List Pt) (p : Pt) (r : Rs) (w : World) (hR : Rb w R r) (hP : Prt w P l len) (hpv : r.pv = .slice (some ⟨P, 0, none⟩) l.length pa) (hn : l.length ≤ 1000000) (hf : fdP l t = k + 1) (hk : l[k]? = some p) (h64 : -9223372036854775808 ≤ t ∧ t ≤ 9223372036854775807) (hat : 0 ≤ p.at_ ∧ p.at_ ≤ t) (h8 : t % 8 = 0) (hfar : (p.wn : Int) ≤ (t - p.at_) / 8) : Calls Tryz.prog 131 #[.pointer (some ⟨R, 4, none⟩), .int .i64 t] w fun e w' => e = .returned (.pointer none) ∧ Below w.heap.size w w' := by
  have hF := find_any R P pa len t l r w hR hP hpv hn
  rw [hf] at hF
  have HF : Hid (Calls Tryz.prog 153 #[.pointer (some ⟨R, 4, none⟩), .int .i64 t] w fun e w' => e = .returned (.int .i64 (k : Int)) ∧ Below w.heap.size w w') := by
    have e : (((k + 1 : Nat) : Int) - 1) = k := by omega
    rw [e] at hF
    exact hF
  have hkl := (List.getElem?_eq_some_iff.1 hk).1
  have HR : Hid (Rb w R r) := hR
  have HP : Hid (Prt w P l len) := hP
  have HV : Hid (r.pv = .slice (some ⟨P, 0, none⟩) l.length pa) := hpv
  have HK : Hid (l[k]? = some p) := hk
  have hk' : (k : Int) < l.length := by omega
  have hk0 : ¬ ((k : Int) < 0) := by omega
  clear hF hR hP hpv hn hf hk
  have h8' : (t % 8 != 0) = false := by simpa using h8
  go_enter Tryz.func131, Tryz.ntmps131
  go_wp2_with fail
  refine HF.out.mono ?_
  rintro e w1 ⟨rfl, hb⟩
  have HB : Hid (Below w.heap.size w w1) := hb
  obtain ⟨p0, p1, p2⟩ := (HP.out.below hb).pta k p HK.out
  have r4 := (HR.out.below hb).cell (j := 4) (v := .slice (some ⟨P, 0, none⟩) l.length pa) (by rw [← HV.out]; rfl)
  generalize l.length = n at *
  clear hb
  go_wp2
  go_ret
  exact ⟨rfl, HB.out.alloc HB.out.size _⟩
theorem word_at (R P pa len k : Nat) (t : Int) (l : List Pt) (p : Pt) (r : Rs) (w : World) (hR : Rb w R r) (hP : Prt w P l len) (hpv : r.pv = .slice (some ⟨P, 0, none⟩) l.length pa) (hn : l.length ≤ 1000000) (hf : fdP l t = k + 1) (hk : l[k]? = some p) (h64 : -9223372036854775808 ≤ t ∧ t ≤ 9223372036854775807) (hat : 0 ≤ p.at_ ∧ p.at_ ≤ t) (h8 : t % 8 = 0) (g m : Nat) (hm : (t - p.at_) / 8 = m) (hmn : m < p.wn) (hwa : p.wa = some ⟨g, 0, none⟩) : Calls Tryz.prog 131 #[.pointer (some ⟨R, 4, none⟩), .int .i64 t] w fun e w' => e = .returned (.pointer (some ⟨g, m, none⟩)) ∧ Below w.heap.size w w' := by
  have hF := find_any R P pa len t l r w hR hP hpv hn
  rw [hf] at hF
  have HF : Hid (Calls Tryz.prog 153 #[.pointer (some ⟨R, 4, none⟩), .int .i64 t] w fun e w' => e = .returned (.int .i64 (k : Int)) ∧ Below w.heap.size w w') := by
    have e : (((k + 1 : Nat) : Int) - 1) = k := by omega
    rw [e] at hF
    exact hF
  have hkl := (List.getElem?_eq_some_iff.1 hk).1
  have HR : Hid (Rb w R r) := hR
  have HP : Hid (Prt w P l len) := hP
  have HV : Hid (r.pv = .slice (some ⟨P, 0, none⟩) l.length pa) := hpv
  have HK : Hid (l[k]? = some p) := hk
  have hk' : (k : Int) < l.length := by omega
  have hk0 : ¬ ((k : Int) < 0) := by omega
  clear hF hR hP hpv hn hf hk
  have h8' : (t % 8 != 0) = false := by simpa using h8
  have hm1 : ¬ ((p.wn : Int) ≤ m) := by omega
  have hm2 : (m : Int) < p.wn := by omega
  go_enter Tryz.func131, Tryz.ntmps131
  go_wp2_with fail
  refine HF.out.mono ?_
  rintro e w1 ⟨rfl, hb⟩
  have HB : Hid (Below w.heap.size w w1) := hb
  obtain ⟨p0, p1, p2⟩ := (HP.out.below hb).pta k p HK.out
  rw [hwa] at p2
  have r4 := (HR.out.below hb).cell (j := 4) (v := .slice (some ⟨P, 0, none⟩) l.length pa) (by rw [← HV.out]; rfl)
  generalize l.length = n at *
  clear hb
  go_wp2
  go_ret
  exact ⟨rfl, HB.out.alloc HB.out.size _⟩
theorem word_any (R P pa len : Nat) (t : Int) (l : List Pt) (r : Rs) (w : World) (hR : Rb w R r) (hP : Prt w P l len) (hpv : r.pv = .slice (some ⟨P, 0, none⟩) l.length pa) (hn : l.length ≤ 1000000) (h64 : -9223372036854775808 ≤ t ∧ t ≤ 9223372036854775807) (hat : ∀ p ∈ l, 0 ≤ p.at_) (hwa : ∀ p ∈ l, 0 < p.wn → ∃ g, p.wa = some ⟨g, 0, none⟩) : (woP l t = none ∧ Calls Tryz.prog 131 #[.pointer (some ⟨R, 4, none⟩), .int .i64 t] w fun e w' => e = .returned (.pointer none) ∧ Below w.heap.size w w') ∨ ∃ k m p g, woP l t = some (k, m) ∧ l[k]? = some p ∧ m < p.wn ∧ p.wa = some ⟨g, 0, none⟩ ∧ Calls Tryz.prog 131 #[.pointer (some ⟨R, 4, none⟩), .int .i64 t] w fun e w' => e = .returned (.pointer (some ⟨g, m, none⟩)) ∧ Below w.heap.size w w' := by
  cases hf : fdP l t with
  | zero => exact .inl ⟨by unfold woP; rw [hf], word_none R P pa len t l r w hR hP hpv hn hf⟩
  | succ k =>
    obtain ⟨h1, h2⟩ := fdP_le l t hf
    have hk := List.getElem?_eq_getElem h2
    have hat0 := hat _ (List.getElem_mem h2)
    have hle : l[k].at_ ≤ t := by
      unfold atF at h1
      rw [hk] at h1
      exact h1
    by_cases h8 : t % 8 = 0
    · by_cases hfar : (l[k].wn : Int) ≤ (t - l[k].at_) / 8
      · exact .inl ⟨by unfold woP; rw [hf]; simp only [h8, if_true, hk, if_pos hfar], word_far R P pa len k t l l[k] r w hR hP hpv hn hf hk h64 ⟨hat0, hle⟩ h8 hfar⟩
      · have h0 : 0 ≤ (t - l[k].at_) / 8 := Int.ediv_nonneg (by omega) (by omega)
        obtain ⟨m, hm⟩ : ∃ m : Nat, (t - l[k].at_) / 8 = m := ⟨((t - l[k].at_) / 8).toNat, by omega⟩
        obtain ⟨g, hg⟩ := hwa _ (List.getElem_mem h2) (by omega)
        refine .inr ⟨k, m, l[k], g, ?_, hk, by omega, hg, word_at R P pa len k t l l[k] r w hR hP hpv hn hf hk h64 ⟨hat0, hle⟩ h8 g m hm (by omega) hg⟩
        unfold woP
        rw [hf]
        simp only [h8, if_true, hk, hm]
        rw [hm] at hfar
        rw [if_neg hfar]
        simp
    · exact .inl ⟨by unfold woP; rw [hf]; simp only [h8, if_false], word_odd R P pa len k t l l[k] r w hR hP hpv hn hf hk h64 ⟨hat0, hle⟩ h8⟩
end
section
open Go.RowKit Go.Shelf
set_option maxHeartbeats 4000000
set_option maxRecDepth 20000
theorem rword_some (R g m : Nat) (t : Int) (w : World) (hw : Calls Tryz.prog 131 #[.pointer (some ⟨R, 4, none⟩), .int .i64 t] w fun e w' => e = .returned (.pointer (some ⟨g, m, none⟩)) ∧ Below w.heap.size w w') : Calls Tryz.prog 100 #[.pointer (some ⟨R, 0, none⟩), .int .i64 t] w fun e w' => e = .returned (.pointer (some ⟨g, m, none⟩)) ∧ Below w.heap.size w w' := by
  have HW : Hid (Calls Tryz.prog 131 #[.pointer (some ⟨R, 4, none⟩), .int .i64 t] w fun e w' => e = .returned (.pointer (some ⟨g, m, none⟩)) ∧ Below w.heap.size w w') := hw
  clear hw
  go_enter Tryz.func100, Tryz.ntmps100
  go_wp2_with (first | (go_at_call 131; refine HW.out.mono ?_; rintro e w1 ⟨rfl, hb⟩))
  go_ret
  exact ⟨rfl, hb⟩
theorem rword_none (R : Nat) (t : Int) (r : Rs) (w : World) (hR : Rb w R r) (hw : Calls Tryz.prog 131 #[.pointer (some ⟨R, 4, none⟩), .int .i64 t] w fun e w' => e = .returned (.pointer none) ∧ Below w.heap.size w w') : Calls Tryz.prog 100 #[.pointer (some ⟨R, 0, none⟩), .int .i64 t] w fun e w' => e = .returned (.pointer none) ∧ ∃ w1, Below w.heap.size w w1 ∧ w' = (w1.setCell ⟨R, 9, none⟩ (.int .i64 3)).setCell ⟨R, 10, none⟩ (.int .i64 0) := by
  have HW : Hid (Calls Tryz.prog 131 #[.pointer (some ⟨R, 4, none⟩), .int .i64 t] w fun e w' => e = .returned (.pointer none) ∧ Below w.heap.size w w') := hw
  have HR : Hid (Rb w R r) := hR
  clear hw hR
  go_enter Tryz.func100, Tryz.ntmps100
  go_wp2_with (first | (go_at_call 131; refine HW.out.mono ?_; rintro e w1 ⟨rfl, hb⟩) | (go_at_call 71; refine (end36 R 3 0 (rsC r) _ (HR.out.below hb).cl rfl).mono ?_; rintro e w' ⟨rfl, rfl⟩))
  go_ret
  exact ⟨rfl, _, hb, rfl⟩
theorem wrapE (z : Int) : IntKind.i64.wrap z = wrap64 z := by rw [IntKind.wrap_i64]; unfold wrap64; omega
/-- A world that is as another one below its end. -/
structure Bw (w : World) where
  W : World
  h : Below w.heap.size w W
theorem wp_region_quiet_bw {P : Program} {id : Nat} {Q : Exit → Act → World → Prop} {a : Act} {w : World} {l : List Oper} (hm : P.follows .mixedOrders = true) (hB : Region.lexB .any l.toArray = true)
    (h : wpQuiet P l.toArray (fun w' => ∃ p : Bw w, w' = p.W) (fun a' => ∀ w', (∃ p : Bw w, w' = p.W) → Q .normal a' w') l a) : (Code.region id l.toArray true).wp P Q a w :=
  wp_region_quiet (C := fun w' => ∃ p : Bw w, w' = p.W) hm hB ⟨⟨w.drew, (Below.refl _ _).drew⟩, rfl⟩ (by simpa using h)
theorem Bw.cell {w : World} {b o : Nat} {v : Value} (h : w.cell? ⟨b, o, none⟩ = some v) : ∀ p : Bw w, p.W.cell? ⟨b, o, none⟩ = some v := fun p => ((bcell p.h).1 b o (World.block_lt_of_cell? _ _ h)).trans h
theorem Bw.to {w : World} {f : FuncId} {args : Array Value} {v : Value} {p : Bw w} (h : Calls Tryz.prog f args p.W fun e w' => e = .returned v ∧ Below p.W.heap.size p.W w') : Calls Tryz.prog f args p.W fun e w'' => e = .returned v ∧ ∃ q : Bw w, w'' = q.W :=
  h.mono fun _ w' ⟨he, hb⟩ => ⟨he, ⟨w', p.h.trans (hb.mono p.h.size)⟩, rfl⟩
theorem Bw.some (w : World) : Nonempty (Bw w) := ⟨⟨w, Below.refl _ _⟩⟩
theorem do_load22g (R C ca n q m rc x o j d a g k : Nat) (va nn v u : Int) (w : World) (h3 : w.cell? ⟨R, 3, none⟩ = some (.slice (some ⟨C, 0, none⟩) (n + 1) ca)) (hn : n < 1000000) (c1 : w.cell? ⟨C, n * 7 + 1, none⟩ = some (.slice (some ⟨q, 0, none⟩) m rc)) (c5 : w.cell? ⟨C, n * 7 + 5, none⟩ = some (.int .i64 j)) (z5 : w.frozen? ⟨C, n * 7 + 5, none⟩ = false) (hj : j < 1000000) (i0 : w.cell? ⟨x, o, none⟩ = some (.int .i64 4)) (i1 : w.cell? ⟨x, o + 1, none⟩ = some (.int .i64 d)) (i2 : w.cell? ⟨x, o + 2, none⟩ = some (.int .i64 a)) (i4 : w.cell? ⟨x, o + 4, none⟩ = some (.int .i64 nn)) (hd : d < m) (qd : w.cell? ⟨q, d, none⟩ = some (.int .i64 u)) (zd : w.frozen? ⟨q, d, none⟩ = false) (ha : a < m) (qa : w.cell? ⟨q, a, none⟩ = some (.int .i64 va)) (gk : w.cell? ⟨g, k, none⟩ = some (.int .i64 v)) (hw : ∀ W, Below (w.setCell ⟨C, n * 7 + 5, none⟩ (.int .i64 ((j : Int) + 1))).heap.size (w.setCell ⟨C, n * 7 + 5, none⟩ (.int .i64 ((j : Int) + 1))) W → Calls Tryz.prog 100 #[.pointer (some ⟨R, 0, none⟩), .int .i64 (IntKind.i64.wrap (va + nn))] W fun e w' => e = .returned (.pointer (some ⟨g, k, none⟩)) ∧ Below W.heap.size W w') (nxC : x ≠ C) (nqC : q ≠ C) (ngC : g ≠ C) : Calls Tryz.prog 72 #[.pointer (some ⟨R, 0, none⟩), .pointer (some ⟨x, o, none⟩)] w fun e w' => e = .returned (.tuple #[]) ∧ ∃ W, Below (w.setCell ⟨C, n * 7 + 5, none⟩ (.int .i64 ((j : Int) + 1))).heap.size (w.setCell ⟨C, n * 7 + 5, none⟩ (.int .i64 ((j : Int) + 1))) W ∧ w' = W.setCell ⟨q, d, none⟩ (.int .i64 v) := by
  have hI : Hid (Calls Tryz.prog 98 #[.pointer (some ⟨R, 0, none⟩)] w fun e w' => e = .returned (.pointer (some ⟨C, n * 7, none⟩)) ∧ ∃ k, w' = w.drewN k) := innermost41g R C ca n w h3 hn
  have ej : IntKind.i64.wrap ((j : Int) + 1) = (j : Int) + 1 := by exact wrapI _ (by omega) (by omega)
  have e1 : ¬ x = C := nxC
  have e2 : ¬ C = x := fun e => nxC e.symm
  have i0' := dcell i0
  have c5' := dcell c5
  have z5' : ∀ k, (w.drewN k).frozen? ⟨C, n * 7 + 5, none⟩ = false := fun _ => z5
  have oth : ∀ b t v', b ≠ C → w.cell? ⟨b, t, none⟩ = some v' → (w.setCell ⟨C, n * 7 + 5, none⟩ (.int .i64 ((j : Int) + 1))).cell? ⟨b, t, none⟩ = some v' := fun b t v' hb h => by rw [World.cell?_of_block ((grown_set w C (n * 7 + 5) _).block b (World.block_lt_of_cell? _ _ h) (fun e => hb (by cases e; rfl)))]; exact h
  have HF : Hid (∀ W, Below (w.setCell ⟨C, n * 7 + 5, none⟩ (.int .i64 ((j : Int) + 1))).heap.size (w.setCell ⟨C, n * 7 + 5, none⟩ (.int .i64 ((j : Int) + 1))) W → W.cell? ⟨C, n * 7 + 1, none⟩ = some (.slice (some ⟨q, 0, none⟩) m rc) ∧ W.cell? ⟨x, o + 1, none⟩ = some (.int .i64 d) ∧ W.cell? ⟨x, o + 2, none⟩ = some (.int .i64 a) ∧ W.cell? ⟨x, o + 4, none⟩ = some (.int .i64 nn) ∧ W.cell? ⟨q, d, none⟩ = some (.int .i64 u) ∧ W.frozen? ⟨q, d, none⟩ = false ∧ W.cell? ⟨q, a, none⟩ = some (.int .i64 va) ∧ W.cell? ⟨g, k, none⟩ = some (.int .i64 v)) := fun W hW => by
    have key : ∀ b t v', (w.setCell ⟨C, n * 7 + 5, none⟩ (.int .i64 ((j : Int) + 1))).cell? ⟨b, t, none⟩ = some v' → W.cell? ⟨b, t, none⟩ = some v' := fun b t v' h => by rw [hW.cell (p := ⟨b, t, none⟩) (World.block_lt_of_cell? _ _ h)]; exact h
    have k1 : (w.setCell ⟨C, n * 7 + 5, none⟩ (.int .i64 ((j : Int) + 1))).cell? ⟨C, n * 7 + 1, none⟩ = some (.slice (some ⟨q, 0, none⟩) m rc) := by
      have h := c1
      go_simp
    have zq : W.frozen? ⟨q, d, none⟩ = false := by
      rw [World.frozen?_of_block (hW.block q (World.block_lt_of_cell? _ _ (oth _ _ _ nqC qd))), World.frozen?_of_block ((grown_set w C (n * 7 + 5) _).block q (World.block_lt_of_cell? _ _ qd) (fun e => nqC (by cases e; rfl)))]
      exact zd
    exact ⟨key _ _ _ k1, key _ _ _ (oth _ _ _ nxC i1), key _ _ _ (oth _ _ _ nxC i2), key _ _ _ (oth _ _ _ nxC i4), key _ _ _ (oth _ _ _ nqC qd), zq, key _ _ _ (oth _ _ _ nqC qa), key _ _ _ (oth _ _ _ ngC gk)⟩
  have HW : Hid (∀ W, Below (w.setCell ⟨C, n * 7 + 5, none⟩ (.int .i64 ((j : Int) + 1))).heap.size (w.setCell ⟨C, n * 7 + 5, none⟩ (.int .i64 ((j : Int) + 1))) W → Calls Tryz.prog 100 #[.pointer (some ⟨R, 0, none⟩), .int .i64 (IntKind.i64.wrap (va + nn))] W fun e w' => e = .returned (.pointer (some ⟨g, k, none⟩)) ∧ Below W.heap.size W w') := hw
  clear hw oth h3 c1 c5 i0 i1 i2 i4 qd qa gk z5 zd nxC nqC ngC
  go_enter Tryz.func72, Tryz.ntmps72
  go_wp2_with fail
  refine hI.out.mono ?_
  rintro e w1 ⟨rfl, n1, rfl⟩
  have HB0 : Hid (Below (w.setCell ⟨C, n * 7 + 5, none⟩ (.int .i64 ((j : Int) + 1))).heap.size (w.setCell ⟨C, n * 7 + 5, none⟩ (.int .i64 ((j : Int) + 1))) ((w.drewN n1).setCell ⟨C, n * 7 + 5, none⟩ (.int .i64 ((j : Int) + 1)))) := below_drewN (Below.refl _ _) n1
  go_wp2
  generalize hV : ((w.drewN n1).setCell ⟨C, n * 7 + 5, none⟩ (.int .i64 ((j : Int) + 1))) = V at *
  clear hV
  obtain ⟨y1, _, y2, y3, _, _, y4, _⟩ := HF.out V HB0.out
  have hne := Bw.some V
  have f1 := Bw.cell y1
  have f2 := Bw.cell y2
  have f3 := Bw.cell y3
  have f4 := Bw.cell y4
  have HC : Hid (∀ p : Bw V, Calls Tryz.prog 100 #[.pointer (some ⟨R, 0, none⟩), .int .i64 (IntKind.i64.wrap (va + nn))] p.W fun e w' => e = .returned (.pointer (some ⟨g, k, none⟩)) ∧ ∃ q : Bw V, w' = q.W) := fun p => Bw.to (HW.out p.W (HB0.out.trans (p.h.mono HB0.out.size)))
  clear hI i0' c5' z5' ej e1 e2 HW y1 y2 y3 y4
  refine wp_region_quiet_bw (by kernel_rfl) (by kernel_rfl) ?_
  repeat (quiet_step (exact HC.out _))
  refine wpQuiet_nil ?_
  intro w2 hw'
  have HB2 : Hid (Below V.heap.size V w2) := by
    obtain ⟨p2, rfl⟩ := hw'
    exact p2.h
  clear hw' f1 f2 f3 f4 hne HC
  obtain ⟨b1, b2, b3, b4, b5, b6, b7, b8⟩ := HF.out w2 (HB0.out.trans (HB2.out.mono HB0.out.size))
  have HB3 : Hid (Below (w.setCell ⟨C, n * 7 + 5, none⟩ (.int .i64 ((j : Int) + 1))).heap.size (w.setCell ⟨C, n * 7 + 5, none⟩ (.int .i64 ((j : Int) + 1))) w2) := HB0.out.trans (HB2.out.mono HB0.out.size)
  clear HB2 HB0 HF
  have b1' := dcell b1
  have b2' := dcell b2
  have b5' := dcell b5
  have b8' := dcell b8
  have b6' : ∀ t, (w2.drewN t).frozen? ⟨q, d, none⟩ = false := fun _ => b6
  go_wp2
  refine wp_region_last_lit (by simp) (by kernel_rfl) (by kernel_rfl) (by kernel_rfl) ?_
  dsimp only [List.dropLast, List.getLast]
  repeat (quiet_step (fail))
  refine wpQuiet_nil ?_
  intro nq K hK
  go_simp
  refine hK _ _ ?_
  clear hK K
  go_wp2
  go_returns
  exact ⟨rfl, w2.drewN nq, HB3.out.trans (below_drewN (Below.refl _ _) nq), rfl⟩
theorem do_store22g (R C ca n q m rc x o j d a g k : Nat) (va nn v u : Int) (w : World) (h3 : w.cell? ⟨R, 3, none⟩ = some (.slice (some ⟨C, 0, none⟩) (n + 1) ca)) (hn : n < 1000000) (c1 : w.cell? ⟨C, n * 7 + 1, none⟩ = some (.slice (some ⟨q, 0, none⟩) m rc)) (c5 : w.cell? ⟨C, n * 7 + 5, none⟩ = some (.int .i64 j)) (z5 : w.frozen? ⟨C, n * 7 + 5, none⟩ = false) (hj : j < 1000000) (i0 : w.cell? ⟨x, o, none⟩ = some (.int .i64 5)) (i1 : w.cell? ⟨x, o + 3, none⟩ = some (.int .i64 d)) (i2 : w.cell? ⟨x, o + 2, none⟩ = some (.int .i64 a)) (i4 : w.cell? ⟨x, o + 4, none⟩ = some (.int .i64 nn)) (hd : d < m) (qd : w.cell? ⟨q, d, none⟩ = some (.int .i64 u)) (zd : w.frozen? ⟨g, k, none⟩ = false) (ha : a < m) (qa : w.cell? ⟨q, a, none⟩ = some (.int .i64 va)) (gk : w.cell? ⟨g, k, none⟩ = some (.int .i64 v)) (hw : ∀ W, Below (w.setCell ⟨C, n * 7 + 5, none⟩ (.int .i64 ((j : Int) + 1))).heap.size (w.setCell ⟨C, n * 7 + 5, none⟩ (.int .i64 ((j : Int) + 1))) W → Calls Tryz.prog 100 #[.pointer (some ⟨R, 0, none⟩), .int .i64 (IntKind.i64.wrap (va + nn))] W fun e w' => e = .returned (.pointer (some ⟨g, k, none⟩)) ∧ Below W.heap.size W w') (nxC : x ≠ C) (nqC : q ≠ C) (ngC : g ≠ C) : Calls Tryz.prog 72 #[.pointer (some ⟨R, 0, none⟩), .pointer (some ⟨x, o, none⟩)] w fun e w' => e = .returned (.tuple #[]) ∧ ∃ W, Below (w.setCell ⟨C, n * 7 + 5, none⟩ (.int .i64 ((j : Int) + 1))).heap.size (w.setCell ⟨C, n * 7 + 5, none⟩ (.int .i64 ((j : Int) + 1))) W ∧ w' = W.setCell ⟨g, k, none⟩ (.int .i64 u) := by
  have hI : Hid (Calls Tryz.prog 98 #[.pointer (some ⟨R, 0, none⟩)] w fun e w' => e = .returned (.pointer (some ⟨C, n * 7, none⟩)) ∧ ∃ k, w' = w.drewN k) := innermost41g R C ca n w h3 hn
  have ej : IntKind.i64.wrap ((j : Int) + 1) = (j : Int) + 1 := by exact wrapI _ (by omega) (by omega)
  have e1 : ¬ x = C := nxC
  have e2 : ¬ C = x := fun e => nxC e.symm
  have i0' := dcell i0
  have c5' := dcell c5
  have z5' : ∀ k, (w.drewN k).frozen? ⟨C, n * 7 + 5, none⟩ = false := fun _ => z5
  have oth : ∀ b t v', b ≠ C → w.cell? ⟨b, t, none⟩ = some v' → (w.setCell ⟨C, n * 7 + 5, none⟩ (.int .i64 ((j : Int) + 1))).cell? ⟨b, t, none⟩ = some v' := fun b t v' hb h => by rw [World.cell?_of_block ((grown_set w C (n * 7 + 5) _).block b (World.block_lt_of_cell? _ _ h) (fun e => hb (by cases e; rfl)))]; exact h
  have HF : Hid (∀ W, Below (w.setCell ⟨C, n * 7 + 5, none⟩ (.int .i64 ((j : Int) + 1))).heap.size (w.setCell ⟨C, n * 7 + 5, none⟩ (.int .i64 ((j : Int) + 1))) W → W.cell? ⟨C, n * 7 + 1, none⟩ = some (.slice (some ⟨q, 0, none⟩) m rc) ∧ W.cell? ⟨x, o + 3, none⟩ = some (.int .i64 d) ∧ W.cell? ⟨x, o + 2, none⟩ = some (.int .i64 a) ∧ W.cell? ⟨x, o + 4, none⟩ = some (.int .i64 nn) ∧ W.cell? ⟨q, d, none⟩ = some (.int .i64 u) ∧ W.frozen? ⟨g, k, none⟩ = false ∧ W.cell? ⟨q, a, none⟩ = some (.int .i64 va) ∧ W.cell? ⟨g, k, none⟩ = some (.int .i64 v)) := fun W hW => by
    have key : ∀ b t v', (w.setCell ⟨C, n * 7 + 5, none⟩ (.int .i64 ((j : Int) + 1))).cell? ⟨b, t, none⟩ = some v' → W.cell? ⟨b, t, none⟩ = some v' := fun b t v' h => by rw [hW.cell (p := ⟨b, t, none⟩) (World.block_lt_of_cell? _ _ h)]; exact h
    have k1 : (w.setCell ⟨C, n * 7 + 5, none⟩ (.int .i64 ((j : Int) + 1))).cell? ⟨C, n * 7 + 1, none⟩ = some (.slice (some ⟨q, 0, none⟩) m rc) := by
      have h := c1
      go_simp
    have zq : W.frozen? ⟨g, k, none⟩ = false := by
      rw [World.frozen?_of_block (hW.block g (World.block_lt_of_cell? _ _ (oth _ _ _ ngC gk))), World.frozen?_of_block ((grown_set w C (n * 7 + 5) _).block g (World.block_lt_of_cell? _ _ gk) (fun e => ngC (by cases e; rfl)))]
      exact zd
    exact ⟨key _ _ _ k1, key _ _ _ (oth _ _ _ nxC i1), key _ _ _ (oth _ _ _ nxC i2), key _ _ _ (oth _ _ _ nxC i4), key _ _ _ (oth _ _ _ nqC qd), zq, key _ _ _ (oth _ _ _ nqC qa), key _ _ _ (oth _ _ _ ngC gk)⟩
  have HW : Hid (∀ W, Below (w.setCell ⟨C, n * 7 + 5, none⟩ (.int .i64 ((j : Int) + 1))).heap.size (w.setCell ⟨C, n * 7 + 5, none⟩ (.int .i64 ((j : Int) + 1))) W → Calls Tryz.prog 100 #[.pointer (some ⟨R, 0, none⟩), .int .i64 (IntKind.i64.wrap (va + nn))] W fun e w' => e = .returned (.pointer (some ⟨g, k, none⟩)) ∧ Below W.heap.size W w') := hw
  clear hw oth h3 c1 c5 i0 i1 i2 i4 qd qa gk z5 zd nxC nqC ngC
  go_enter Tryz.func72, Tryz.ntmps72
  go_wp2_with fail
  refine hI.out.mono ?_
  rintro e w1 ⟨rfl, n1, rfl⟩
  have HB0 : Hid (Below (w.setCell ⟨C, n * 7 + 5, none⟩ (.int .i64 ((j : Int) + 1))).heap.size (w.setCell ⟨C, n * 7 + 5, none⟩ (.int .i64 ((j : Int) + 1))) ((w.drewN n1).setCell ⟨C, n * 7 + 5, none⟩ (.int .i64 ((j : Int) + 1)))) := below_drewN (Below.refl _ _) n1
  go_wp2
  generalize hV : ((w.drewN n1).setCell ⟨C, n * 7 + 5, none⟩ (.int .i64 ((j : Int) + 1))) = V at *
  clear hV
  obtain ⟨y1, _, y2, y3, _, _, y4, _⟩ := HF.out V HB0.out
  have hne := Bw.some V
  have f1 := Bw.cell y1
  have f2 := Bw.cell y2
  have f3 := Bw.cell y3
  have f4 := Bw.cell y4
  have HC : Hid (∀ p : Bw V, Calls Tryz.prog 100 #[.pointer (some ⟨R, 0, none⟩), .int .i64 (IntKind.i64.wrap (va + nn))] p.W fun e w' => e = .returned (.pointer (some ⟨g, k, none⟩)) ∧ ∃ q : Bw V, w' = q.W) := fun p => Bw.to (HW.out p.W (HB0.out.trans (p.h.mono HB0.out.size)))
  clear hI i0' c5' z5' ej e1 e2 HW y1 y2 y3 y4
  refine wp_region_quiet_bw (by kernel_rfl) (by kernel_rfl) ?_
  repeat (quiet_step (exact HC.out _))
  refine wpQuiet_nil ?_
  intro w2 hw'
  have HB2 : Hid (Below V.heap.size V w2) := by
    obtain ⟨p2, rfl⟩ := hw'
    exact p2.h
  clear hw' f1 f2 f3 f4 hne HC
  obtain ⟨b1, b2, b3, b4, b5, b6, b7, b8⟩ := HF.out w2 (HB0.out.trans (HB2.out.mono HB0.out.size))
  have HB3 : Hid (Below (w.setCell ⟨C, n * 7 + 5, none⟩ (.int .i64 ((j : Int) + 1))).heap.size (w.setCell ⟨C, n * 7 + 5, none⟩ (.int .i64 ((j : Int) + 1))) w2) := HB0.out.trans (HB2.out.mono HB0.out.size)
  clear HB2 HB0 HF
  have b1' := dcell b1
  have b2' := dcell b2
  have b5' := dcell b5
  have b8' := dcell b8
  have b6' : ∀ t, (w2.drewN t).frozen? ⟨g, k, none⟩ = false := fun _ => b6
  go_wp2
  refine wp_region_last_lit (by simp) (by kernel_rfl) (by kernel_rfl) (by kernel_rfl) ?_
  dsimp only [List.dropLast, List.getLast]
  repeat (quiet_step (fail))
  refine wpQuiet_nil ?_
  intro nq K hK
  go_simp
  refine hK _ _ ?_
  clear hK K
  go_wp2
  go_returns
  exact ⟨rfl, w2.drewN nq, HB3.out.trans (below_drewN (Below.refl _ _) nq), rfl⟩
end
section
open Go.RowKit Go.Shelf
set_option maxRecDepth 20000
set_option maxHeartbeats 4000000
theorem do_load_none (R C ca n q m rc x o j a : Nat) (va nn : Int) (w : World) (h3 : w.cell? ⟨R, 3, none⟩ = some (.slice (some ⟨C, 0, none⟩) (n + 1) ca)) (hn : n < 1000000) (c1 : w.cell? ⟨C, n * 7 + 1, none⟩ = some (.slice (some ⟨q, 0, none⟩) m rc)) (c5 : w.cell? ⟨C, n * 7 + 5, none⟩ = some (.int .i64 j)) (z5 : w.frozen? ⟨C, n * 7 + 5, none⟩ = false) (hj : j < 1000000) (i0 : w.cell? ⟨x, o, none⟩ = some (.int .i64 4)) (i2 : w.cell? ⟨x, o + 2, none⟩ = some (.int .i64 a)) (i4 : w.cell? ⟨x, o + 4, none⟩ = some (.int .i64 nn)) (ha : a < m) (qa : w.cell? ⟨q, a, none⟩ = some (.int .i64 va)) (hw : ∀ W, Below (w.setCell ⟨C, n * 7 + 5, none⟩ (.int .i64 ((j : Int) + 1))).heap.size (w.setCell ⟨C, n * 7 + 5, none⟩ (.int .i64 ((j : Int) + 1))) W → Calls Tryz.prog 100 #[.pointer (some ⟨R, 0, none⟩), .int .i64 (IntKind.i64.wrap (va + nn))] W fun e w' => e = .returned (.pointer none) ∧ ∃ w1, Below W.heap.size W w1 ∧ w' = (w1.setCell ⟨R, 9, none⟩ (.int .i64 3)).setCell ⟨R, 10, none⟩ (.int .i64 0)) (nxC : x ≠ C) (nqC : q ≠ C) (nxR : x ≠ R) (nqR : q ≠ R) (nCR : C ≠ R) : Calls Tryz.prog 72 #[.pointer (some ⟨R, 0, none⟩), .pointer (some ⟨x, o, none⟩)] w fun e w' => e = .returned (.tuple #[]) ∧ ∃ w1, Below (w.setCell ⟨C, n * 7 + 5, none⟩ (.int .i64 ((j : Int) + 1))).heap.size (w.setCell ⟨C, n * 7 + 5, none⟩ (.int .i64 ((j : Int) + 1))) w1 ∧ w' = (w1.setCell ⟨R, 9, none⟩ (.int .i64 3)).setCell ⟨R, 10, none⟩ (.int .i64 0) := by
  have hI : Hid (Calls Tryz.prog 98 #[.pointer (some ⟨R, 0, none⟩)] w fun e w' => e = .returned (.pointer (some ⟨C, n * 7, none⟩)) ∧ ∃ k, w' = w.drewN k) := innermost41g R C ca n w h3 hn
  have ej : IntKind.i64.wrap ((j : Int) + 1) = (j : Int) + 1 := by exact wrapI _ (by omega) (by omega)
  have e1 : ¬ x = C := nxC
  have e2 : ¬ C = x := fun e => nxC e.symm
  have i0' := dcell i0
  have c5' := dcell c5
  have z5' : ∀ k, (w.drewN k).frozen? ⟨C, n * 7 + 5, none⟩ = false := fun _ => z5
  have oth : ∀ b t v', b ≠ C → w.cell? ⟨b, t, none⟩ = some v' → (w.setCell ⟨C, n * 7 + 5, none⟩ (.int .i64 ((j : Int) + 1))).cell? ⟨b, t, none⟩ = some v' := fun b t v' hb h => by rw [World.cell?_of_block ((grown_set w C (n * 7 + 5) _).block b (World.block_lt_of_cell? _ _ h) (fun e => hb (by cases e; rfl)))]; exact h
  have HF : Hid (∀ W, Below (w.setCell ⟨C, n * 7 + 5, none⟩ (.int .i64 ((j : Int) + 1))).heap.size (w.setCell ⟨C, n * 7 + 5, none⟩ (.int .i64 ((j : Int) + 1))) W → W.cell? ⟨C, n * 7 + 1, none⟩ = some (.slice (some ⟨q, 0, none⟩) m rc) ∧ W.cell? ⟨x, o + 2, none⟩ = some (.int .i64 a) ∧ W.cell? ⟨x, o + 4, none⟩ = some (.int .i64 nn) ∧ W.cell? ⟨q, a, none⟩ = some (.int .i64 va)) := fun W hW => by
    have key : ∀ b t v', (w.setCell ⟨C, n * 7 + 5, none⟩ (.int .i64 ((j : Int) + 1))).cell? ⟨b, t, none⟩ = some v' → W.cell? ⟨b, t, none⟩ = some v' := fun b t v' h => by rw [hW.cell (p := ⟨b, t, none⟩) (World.block_lt_of_cell? _ _ h)]; exact h
    have k1 : (w.setCell ⟨C, n * 7 + 5, none⟩ (.int .i64 ((j : Int) + 1))).cell? ⟨C, n * 7 + 1, none⟩ = some (.slice (some ⟨q, 0, none⟩) m rc) := by
      have h := c1
      go_simp
    exact ⟨key _ _ _ k1, key _ _ _ (oth _ _ _ nxC i2), key _ _ _ (oth _ _ _ nxC i4), key _ _ _ (oth _ _ _ nqC qa)⟩
  have HW : Hid (∀ W, Below (w.setCell ⟨C, n * 7 + 5, none⟩ (.int .i64 ((j : Int) + 1))).heap.size (w.setCell ⟨C, n * 7 + 5, none⟩ (.int .i64 ((j : Int) + 1))) W → Calls Tryz.prog 100 #[.pointer (some ⟨R, 0, none⟩), .int .i64 (IntKind.i64.wrap (va + nn))] W fun e w' => e = .returned (.pointer none) ∧ ∃ w1, Below W.heap.size W w1 ∧ w' = (w1.setCell ⟨R, 9, none⟩ (.int .i64 3)).setCell ⟨R, 10, none⟩ (.int .i64 0)) := hw
  have HN : Hid (x ≠ R ∧ q ≠ R ∧ C ≠ R) := ⟨nxR, nqR, nCR⟩
  clear hw oth h3 c1 c5 i0 i2 i4 qa z5 nxC nqC nxR nqR nCR
  go_enter Tryz.func72, Tryz.ntmps72
  go_wp2_with fail
  refine hI.out.mono ?_
  rintro e w1 ⟨rfl, n1, rfl⟩
  have HB0 : Hid (Below (w.setCell ⟨C, n * 7 + 5, none⟩ (.int .i64 ((j : Int) + 1))).heap.size (w.setCell ⟨C, n * 7 + 5, none⟩ (.int .i64 ((j : Int) + 1))) ((w.drewN n1).setCell ⟨C, n * 7 + 5, none⟩ (.int .i64 ((j : Int) + 1)))) := below_drewN (Below.refl _ _) n1
  go_wp2
  generalize hV : ((w.drewN n1).setCell ⟨C, n * 7 + 5, none⟩ (.int .i64 ((j : Int) + 1))) = V at *
  clear hV
  have HS : Hid (∀ W, Below V.heap.size V W → W.cell? ⟨C, n * 7 + 1, none⟩ = some (.slice (some ⟨q, 0, none⟩) m rc) ∧ W.cell? ⟨x, o + 2, none⟩ = some (.int .i64 a) ∧ W.cell? ⟨x, o + 4, none⟩ = some (.int .i64 nn) ∧ W.cell? ⟨q, a, none⟩ = some (.int .i64 va)) := fun W hW => HF.out W (HB0.out.trans (hW.mono HB0.out.size))
  have HS2 : Hid (∀ W, Below V.heap.size V W → ((W.setCell ⟨R, 9, none⟩ (.int .i64 3)).setCell ⟨R, 10, none⟩ (.int .i64 0)).cell? ⟨C, n * 7 + 1, none⟩ = some (.slice (some ⟨q, 0, none⟩) m rc) ∧ ((W.setCell ⟨R, 9, none⟩ (.int .i64 3)).setCell ⟨R, 10, none⟩ (.int .i64 0)).cell? ⟨x, o + 2, none⟩ = some (.int .i64 a) ∧ ((W.setCell ⟨R, 9, none⟩ (.int .i64 3)).setCell ⟨R, 10, none⟩ (.int .i64 0)).cell? ⟨x, o + 4, none⟩ = some (.int .i64 nn) ∧ ((W.setCell ⟨R, 9, none⟩ (.int .i64 3)).setCell ⟨R, 10, none⟩ (.int .i64 0)).cell? ⟨q, a, none⟩ = some (.int .i64 va)) := fun W hW => by
    obtain ⟨y1, y2, y3, y4⟩ := HS.out W hW
    have far : ∀ b t v', b ≠ R → W.cell? ⟨b, t, none⟩ = some v' → ((W.setCell ⟨R, 9, none⟩ (.int .i64 3)).setCell ⟨R, 10, none⟩ (.int .i64 0)).cell? ⟨b, t, none⟩ = some v' := fun b t v' hb h => by
      rw [World.cell?_of_block ((((Onl.of_below (Below.refl _ W)).set (S := fun b => b = R) rfl).set rfl).block b (World.block_lt_of_cell? _ _ h) hb)]
      exact h
    exact ⟨far _ _ _ HN.out.2.2 y1, far _ _ _ HN.out.1 y2, far _ _ _ HN.out.1 y3, far _ _ _ HN.out.2.1 y4⟩
  have HC : Hid (Calls Tryz.prog 100 #[.pointer (some ⟨R, 0, none⟩), .int .i64 (IntKind.i64.wrap (va + nn))] V.drew fun e w' => e = .returned (.pointer none) ∧ ∃ w1, Below V.heap.size V w1 ∧ w' = (w1.setCell ⟨R, 9, none⟩ (.int .i64 3)).setCell ⟨R, 10, none⟩ (.int .i64 0)) := (HW.out V.drew HB0.out.drew).mono fun e w' h => ⟨h.1, h.2.imp fun w1 h => ⟨(Below.refl V.heap.size V).drew.trans h.1, h.2⟩⟩
  clear hI i0' c5' z5' ej e1 e2 HW
  go_region_held3 (fun W => W.cell? ⟨C, n * 7 + 1, none⟩ = some (.slice (some ⟨q, 0, none⟩) m rc) ∧ W.cell? ⟨x, o + 2, none⟩ = some (.int .i64 a) ∧ W.cell? ⟨x, o + 4, none⟩ = some (.int .i64 nn) ∧ W.cell? ⟨q, a, none⟩ = some (.int .i64 va)) (first | exact HS2.out _ HB2.out | exact HS.out _ (Below.refl _ _).drew) (first | (go_at_call 100; refine HC.out.mono ?_; rintro e w2 ⟨rfl, w3, hb, rfl⟩; have HB2 : Hid (Below V.heap.size V w3) := hb; clear hb))
  go_wp2
  go_returns
  exact ⟨rfl, w3, HB0.out.trans (HB2.out.mono HB0.out.size), rfl⟩
end
end Go.Proofs.YtdppoblbenbafaaGreatDoor
