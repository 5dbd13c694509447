/- What an instruction does: returns, traps, calls. One step: the end of a call, the end of the run. One step: a call ends. Whether a call is one too many; what is read and printed. A number is printed, in whatever run. -/
import Derived.Test.YtdppoblbenbafaaGreatDoorYAP
import Derived.Test.YtdppoblbenbafaaGreatDoorYAR
import Derived.Test.YtdppoblbenbafaaGreatDoorYAD
import Derived.Test.YtdppoblbenbafaaGreatDoorYAO
import Derived.Test.YtdppoblbenbafaaGreatDoorYAE
import Derived.Lib.ItoaLen
namespace Go.Proofs.YtdppoblbenbafaaGreatDoor
section
open Go.RowKit Go.Shelf
set_option maxRecDepth 20000
set_option maxHeartbeats 2000000
theorem do_ret22g (R C ca n x o j : Nat) (a v : Int) (Q : World → Prop) (w : World) (h3 : w.cell? ⟨R, 3, none⟩ = some (.slice (some ⟨C, 0, none⟩) (n + 1) ca)) (hn : n < 1000000) (c5 : w.cell? ⟨C, n * 7 + 5, none⟩ = some (.int .i64 j)) (z5 : w.frozen? ⟨C, n * 7 + 5, none⟩ = false) (hj : j < 1000000) (i0 : w.cell? ⟨x, o, none⟩ = some (.int .i64 10)) (i2 : w.cell? ⟨x, o + 2, none⟩ = some (.int .i64 a)) (hv : ∀ k, Calls Tryz.prog 103 #[.pointer (some ⟨C, n * 7, none⟩), .int .i64 a] ((w.setCell ⟨C, n * 7 + 5, none⟩ (.int .i64 ((j : Int) + 1))).drewN k) fun e w' => e = .returned (.int .i64 v) ∧ w' = ((w.setCell ⟨C, n * 7 + 5, none⟩ (.int .i64 ((j : Int) + 1))).drewN k)) (hb : ∀ k, Calls Tryz.prog 102 #[.pointer (some ⟨R, 0, none⟩), .int .i64 v] ((w.setCell ⟨C, n * 7 + 5, none⟩ (.int .i64 ((j : Int) + 1))).drewN k) fun e w' => e = .returned (.tuple #[]) ∧ Q w') (nxC : x ≠ C) (nRC : R ≠ C) : Calls Tryz.prog 72 #[.pointer (some ⟨R, 0, none⟩), .pointer (some ⟨x, o, none⟩)] w fun e w' => e = .returned (.tuple #[]) ∧ Q w' := by
  have hI : Hid (Calls Tryz.prog 98 #[.pointer (some ⟨R, 0, none⟩)] w fun e w' => e = .returned (.pointer (some ⟨C, n * 7, none⟩)) ∧ ∃ k, w' = w.drewN k) := innermost41g R C ca n w h3 hn
  have ej : IntKind.i64.wrap ((j : Int) + 1) = (j : Int) + 1 := by exact wrapI _ (by omega) (by omega)
  have e1 : ¬ x = C := nxC
  have e2 : ¬ C = x := fun e => nxC e.symm
  have e5 : ¬ R = C := nRC
  have e6 : ¬ C = R := fun e => nRC e.symm
  have c5' := dcell c5
  have i0' := dcell i0
  have i2' := dcell i2
  have z5' : ∀ k, (w.drewN k).frozen? ⟨C, n * 7 + 5, none⟩ = false := fun _ => z5
  have HV : Hid (∀ k, Calls Tryz.prog 103 #[.pointer (some ⟨C, n * 7, none⟩), .int .i64 a] ((w.setCell ⟨C, n * 7 + 5, none⟩ (.int .i64 ((j : Int) + 1))).drewN k) fun e w' => e = .returned (.int .i64 v) ∧ w' = ((w.setCell ⟨C, n * 7 + 5, none⟩ (.int .i64 ((j : Int) + 1))).drewN k)) := hv
  have HB : Hid (∀ k, Calls Tryz.prog 102 #[.pointer (some ⟨R, 0, none⟩), .int .i64 v] ((w.setCell ⟨C, n * 7 + 5, none⟩ (.int .i64 ((j : Int) + 1))).drewN k) fun e w' => e = .returned (.tuple #[]) ∧ Q w') := hb
  clear h3 c5 i0 i2 z5 nxC nRC hv hb
  go_enter Tryz.func72, Tryz.ntmps72
  go_wp2_with fail
  refine hI.out.mono ?_
  rintro e w1 ⟨rfl, n1, rfl⟩
  go_wp2_with (first | (go_at_call 103; refine (HV.out n1).mono ?_; rintro e w' ⟨rfl, rfl⟩) | (go_at_call 102; refine (HB.out n1).mono ?_; rintro e w' ⟨rfl, hq⟩))
  go_returns
  exact ⟨rfl, hq⟩
theorem do_call22g (R C ca n x o j : Nat) (Q : World → Prop) (w : World) (h3 : w.cell? ⟨R, 3, none⟩ = some (.slice (some ⟨C, 0, none⟩) (n + 1) ca)) (hn : n < 1000000) (c5 : w.cell? ⟨C, n * 7 + 5, none⟩ = some (.int .i64 j)) (z5 : w.frozen? ⟨C, n * 7 + 5, none⟩ = false) (hj : j < 1000000) (i0 : w.cell? ⟨x, o, none⟩ = some (.int .i64 7)) (hb : ∀ k, Calls Tryz.prog 101 #[.pointer (some ⟨R, 0, none⟩), .pointer (some ⟨x, o, none⟩)] ((w.setCell ⟨C, n * 7 + 5, none⟩ (.int .i64 ((j : Int) + 1))).drewN k) fun e w' => e = .returned (.tuple #[]) ∧ Q w') (nxC : x ≠ C) (nRC : R ≠ C) : Calls Tryz.prog 72 #[.pointer (some ⟨R, 0, none⟩), .pointer (some ⟨x, o, none⟩)] w fun e w' => e = .returned (.tuple #[]) ∧ Q w' := by
  have hI : Hid (Calls Tryz.prog 98 #[.pointer (some ⟨R, 0, none⟩)] w fun e w' => e = .returned (.pointer (some ⟨C, n * 7, none⟩)) ∧ ∃ k, w' = w.drewN k) := innermost41g R C ca n w h3 hn
  have ej : IntKind.i64.wrap ((j : Int) + 1) = (j : Int) + 1 := by exact wrapI _ (by omega) (by omega)
  have e1 : ¬ x = C := nxC
  have e2 : ¬ C = x := fun e => nxC e.symm
  have e5 : ¬ R = C := nRC
  have e6 : ¬ C = R := fun e => nRC e.symm
  have c5' := dcell c5
  have i0' := dcell i0
  have z5' : ∀ k, (w.drewN k).frozen? ⟨C, n * 7 + 5, none⟩ = false := fun _ => z5
  have HB : Hid (∀ k, Calls Tryz.prog 101 #[.pointer (some ⟨R, 0, none⟩), .pointer (some ⟨x, o, none⟩)] ((w.setCell ⟨C, n * 7 + 5, none⟩ (.int .i64 ((j : Int) + 1))).drewN k) fun e w' => e = .returned (.tuple #[]) ∧ Q w') := hb
  clear h3 c5 i0 z5 nxC nRC hb
  go_enter Tryz.func72, Tryz.ntmps72
  go_wp2_with fail
  refine hI.out.mono ?_
  rintro e w1 ⟨rfl, n1, rfl⟩
  go_wp2_with (first | (go_at_call 101; refine (HB.out n1).mono ?_; rintro e w' ⟨rfl, hq⟩))
  go_returns
  exact ⟨rfl, hq⟩
theorem do_trap22g (R C ca n x o j : Nat) (nn : Int) (r : Rs) (w : World) (h3 : w.cell? ⟨R, 3, none⟩ = some (.slice (some ⟨C, 0, none⟩) (n + 1) ca)) (hn : n < 1000000) (c5 : w.cell? ⟨C, n * 7 + 5, none⟩ = some (.int .i64 j)) (z5 : w.frozen? ⟨C, n * 7 + 5, none⟩ = false) (hj : j < 1000000) (i0 : w.cell? ⟨x, o, none⟩ = some (.int .i64 11)) (i4 : w.cell? ⟨x, o + 4, none⟩ = some (.int .i64 nn)) (hR : Rb w R r) (m0 : -9223372036854775808 ≤ nn) (m1 : nn ≤ 9223372036854775807) (nxC : x ≠ C) (nRC : R ≠ C) : Calls Tryz.prog 72 #[.pointer (some ⟨R, 0, none⟩), .pointer (some ⟨x, o, none⟩)] w fun e w' => e = .returned (.tuple #[]) ∧ ∃ k, w' = (((w.setCell ⟨C, n * 7 + 5, none⟩ (.int .i64 ((j : Int) + 1))).setCell ⟨R, 9, none⟩ (.int .i64 1)).setCell ⟨R, 10, none⟩ (.int .i64 nn)).drewN k := by
  have hI : Hid (Calls Tryz.prog 98 #[.pointer (some ⟨R, 0, none⟩)] w fun e w' => e = .returned (.pointer (some ⟨C, n * 7, none⟩)) ∧ ∃ k, w' = w.drewN k) := innermost41g R C ca n w h3 hn
  have ej : IntKind.i64.wrap ((j : Int) + 1) = (j : Int) + 1 := by exact wrapI _ (by omega) (by omega)
  have e1 : ¬ x = C := nxC
  have e2 : ¬ C = x := fun e => nxC e.symm
  have e5 : ¬ R = C := nRC
  have e6 : ¬ C = R := fun e => nRC e.symm
  have c5' := dcell c5
  have i0' := dcell i0
  have i4' := dcell i4
  have z5' : ∀ k, (w.drewN k).frozen? ⟨C, n * 7 + 5, none⟩ = false := fun _ => z5
  have ew : IntKind.i64.wrap nn = nn := wrapI _ m0 m1
  have HE : Hid (∀ k, Calls Tryz.prog 71 #[.pointer (some ⟨R, 0, none⟩), .int .i64 1, .int .i64 nn] ((w.setCell ⟨C, n * 7 + 5, none⟩ (.int .i64 ((j : Int) + 1))).drewN k) fun e w' => e = .returned (.tuple #[]) ∧ w' = (((w.setCell ⟨C, n * 7 + 5, none⟩ (.int .i64 ((j : Int) + 1))).drewN k).setCell ⟨R, 9, none⟩ (.int .i64 1)).setCell ⟨R, 10, none⟩ (.int .i64 nn)) := fun k => end36 R 1 nn (rsC r) _ ((hR.other nRC).drewN k).cl rfl
  clear h3 c5 i0 i4 z5 nxC nRC hR m0 m1
  go_enter Tryz.func72, Tryz.ntmps72
  go_wp2_with fail
  refine hI.out.mono ?_
  rintro e w1 ⟨rfl, n1, rfl⟩
  go_wp2_with (first | (go_at_call 71; refine (HE.out n1).mono ?_; rintro e w' ⟨rfl, rfl⟩))
  go_returns
  exact ⟨rfl, n1, rfl⟩
end
section
open Go.RowKit Go.Shelf
set_option maxHeartbeats 1000000
theorem value_noneg (C o : Nat) (w : World) : Calls Tryz.prog 103 #[.pointer (some ⟨C, o, none⟩), .int .i64 (-1)] w fun e w' => e = .returned (.int .i64 0) ∧ w' = w := by
  go_enter Tryz.func103, Tryz.ntmps103
  go_wp2
  go_ret
  exact ⟨rfl, rfl⟩
theorem filter_set_sub {α : Type} (P : α → Bool) (a : α) (ha : P a = false) : ∀ (l : List α) (k : Nat), List.Sublist ((l.set k a).filter P) (l.filter P)
  | [], _ => by simp
  | x :: l, 0 => by
    rw [List.set_cons_zero, List.filter_cons, List.filter_cons, if_neg (by simp [ha])]
    split
    · exact List.sublist_cons_self _ _
    · exact List.Sublist.refl _
  | x :: l, k + 1 => by
    rw [List.set_cons_succ, List.filter_cons, List.filter_cons]
    split
    · exact (filter_set_sub P a ha l k).cons_cons x
    · exact filter_set_sub P a ha l k
def lvG (x : Nat × Par) : Bool := decide (¬ x.2.kd = 0)
theorem enG_live (gp : List (Nat × Par)) (e kind t c : Int) : List.Sublist ((enK kyG (fun t => (0, nilA t)) gp e kind t c).2.1.filter lvG) (gp.filter lvG) := by
  unfold enK
  split
  · exact List.Sublist.refl _
  · split
    · exact List.Sublist.refl _
    · rename_i k _ _ _ _
      split
      · have h := filter_set_sub lvG ((0, nilA t) : Nat × Par) (by simp [lvG, nilA]) gp k
        simp only []
        unfold tdK
        split
        · exact h
        · have e : (fun a : Nat × Par => decide (¬ (kyG a).1 = 0)) = lvG := rfl
          rw [e, List.filter_filter]
          simpa using h
      · exact List.Sublist.refl _
theorem enG_mem (gp : List (Nat × Par)) (e kind t c : Int) : ∀ x ∈ (enK kyG (fun t => (0, nilA t)) gp e kind t c).2.1, ¬ x.2.kd = 0 → x ∈ gp := fun x hx hk => by
  rcases enK_mem kyG (fun t => ((0, nilA t) : Nat × Par)) gp e kind t c x hx with h | h
  · exact h
  · rw [h] at hk; exact absurd rfl hk
variable {p : List Fun} {pp : Option Addr} {pc : Nat} {W0 : World} {R m1 m2 : Nat} {r : Rs} {C ca P pa : Nat} {gp : List (Nat × Par)} {W : World} {s : St} {tq : Nat} {lq : List (Nat × Cal)}
theorem RelD.next (h : RelD p pp pc W0 R m1 m2 r C ca P pa ((tq, s.top) :: lq) gp W s) (k : Nat) : RelD p pp pc W0 R m1 m2 r C ca P pa ((tq, { s.top with j := s.top.j + 1 }) :: lq) gp ((W.setCell ⟨C, lq.length * 7 + 5, none⟩ (.int .i64 ((s.top.j : Int) + 1))).drewN k) { s with top := { s.top with j := s.top.j + 1 } } := by
  refine h.jmp s.top.b (s.top.j + 1) (((Onl.of_below (Below.refl _ _)).set (S := fun b => b = C) rfl).drewN k) ?_
  have t := own_put (i := lq.length * 7 + 5) (u := .int .i64 ((s.top.j : Int) + 1)) h.co h.cv
  rw [rowV_set] at t
  exact own_onl t (onl_drew _ k (fun _ => False)) (fun _ _ h => h)
/-- The parts of the run, as the ends want them. -/
theorem RelD.prt {gl : List (Nat × Cal)} (h : RelD p pp pc W0 R m1 m2 r C ca P pa gl gp W s) : Prt W P (gp.map ptO) (pa * 3) ∧ r.pv = .slice (some ⟨P, 0, none⟩) (gp.map ptO).length pa ∧ (gp.map ptO).length ≤ pa ∧ pa ≤ maxLen := by
  obtain ⟨_, cs, h1, h2, h3, h4, h5⟩ := own_bk h.po h.pv
  exact ⟨⟨⟨cs, h1, h4, by rw [List.length_map]; exact h5, by rw [List.length_map]; omega⟩⟩, by rw [List.length_map]; exact h.pv, by rw [List.length_map]; exact h2, h3⟩
theorem step_trap (h : RelD p pp pc W0 R m1 m2 r C ca P pa ((tq, s.top) :: lq) gp W s) (hn : lq.length < 1000000) {f : Fun} {bl : Blk} {i : Ins} (hj : s.top.j < 1000000) (hF : InsF f.h i (fdF p i.nm)) {g1 o1 bc g2 o2 ic : Nat} (hP : InsP W0 W p s.top f bl i g1 o1 bc g2 o2 ic) (hop : i.op = 11) : Calls Tryz.prog 72 #[.pointer (some ⟨R, 0, none⟩), .pointer (some ⟨g2, o2 + s.top.j * 9, none⟩)] W fun e w' => e = .returned (.tuple #[]) ∧ OutD p pp pc W0 R m1 m2 w' (stpS p s i) := by
  have hs := h.stpF
  obtain ⟨c0, _⟩ := h.bC
  have i0 := hP.ce 0 _ rfl
  have i4 := hP.ce 4 _ rfl
  rw [hop] at i0
  have hN := hF.nt hop
  refine (do_trap22g R C ca lq.length g2 (o2 + s.top.j * 9) s.top.j i.n r W hs.h3 hn hs.c5 (hs.z _) hj i0 i4 h.rb (by omega) (by omega) (by have := hP.lt; omega) hs.nRC).mono ?_
  rintro e w' ⟨rfl, k, rfl⟩
  refine ⟨rfl, ?_⟩
  unfold stpS
  rw [if_neg (by omega), if_neg (by omega), if_neg (by omega), if_neg (by omega), if_neg (by omega), if_neg (by omega), if_neg (by omega), if_neg (by omega), if_neg (by omega), if_neg (by omega)]
  have hx := h.next 0
  have k1 : Onl (fun b => b = R) (W.setCell ⟨C, lq.length * 7 + 5, none⟩ (.int .i64 ((s.top.j : Int) + 1))) ((((W.setCell ⟨C, lq.length * 7 + 5, none⟩ (.int .i64 ((s.top.j : Int) + 1))).setCell ⟨R, 9, none⟩ (.int .i64 1)).setCell ⟨R, 10, none⟩ (.int .i64 i.n)).drewN k) := (((Onl.of_below (Below.refl _ _)).set (S := fun b => b = R) rfl).set rfl).drewN k
  refine ⟨{ r with fin := 1, cd := i.n }, Onl.below (Nat.le_refl _) hx.bel k1 (fun b e => by rw [e]; exact h.rB), h.rB, (hx.rb.set 9 (.int .i64 1)).set 10 (.int .i64 i.n), rfl, rfl, h.st, own_onl hx.ov k1 (fun g hg e => ?_)⟩
  obtain ⟨_, os, hO⟩ := hx.bO hg
  exact hO.ne hx.rb (by decide) e
theorem low_cell (h : RelD p pp pc W0 R m1 m2 r C ca P pa ((tq, s.top) :: lq) gp W s) {x : Nat × Cal} {l : List (Nat × Cal)} (e : lq = x :: l) (t : Nat) (v : Value) (hv : (calV p x)[t]? = some v) : W.cell? ⟨C, l.length * 7 + t, none⟩ = some v := by
  have ht : t < 7 := by have := (List.getElem?_eq_some_iff.1 hv).1; simpa [calV] using this
  refine own_cell h.co h.cv ?_
  rw [rowV_low _ _ _ _ (by rw [e]; simp only [List.length_cons]; omega), e, rowV_at]
  exact hv
/-- The run behind the end of its innermost call. -/
theorem RelD.back (h : RelD p pp pc W0 R m1 m2 r C ca P pa ((tq, s.top) :: lq) gp W s) {x : Nat × Cal} {l : List (Nat × Cal)} (el : lq = x :: l) {W' : World} {e : Int} {gp' : List (Nat × Par)} (k : Onl (fun b => b = R ∨ b = P) W W') (hR : Rb W' R { r with pv := .slice (some ⟨P, 0, none⟩) gp'.length pa, en := e, cv := .slice (some ⟨C, 0, none⟩) lq.length ca }) (hP' : Prt W' P (gp'.map ptO) (pa * 3)) (hm : ∀ y ∈ gp', ¬ y.2.kd = 0 → y ∈ gp) (hl : List.Sublist (gp'.filter lvG) (gp.filter lvG)) : RelD p pp pc W0 R m1 m2 { r with pv := .slice (some ⟨P, 0, none⟩) gp'.length pa, en := e, cv := .slice (some ⟨C, 0, none⟩) lq.length ca } C ca P pa lq gp' W' { s with top := x.2, low := l.map (·.2), ps := gp'.map (·.2), en := e } := by
  obtain ⟨c0, cs, hC, hC1, hC2, hC3, hC4⟩ := own_bk h.co h.cv
  obtain ⟨p0, pcs, hPb, hp1, hp2, hp3, hp4⟩ := own_bk h.po h.pv
  obtain ⟨m1c, hm1⟩ := h.h1
  have nCR : C ≠ R := hC.ne h.rb (by decide)
  have nCP : C ≠ P := hC.ne hPb (by decide)
  have hC' : Bk W' C 138 cs := hC.onl k (by rintro (e | e); exact nCR e; exact nCP e)
  have hS : ∀ b, (b = R ∨ b = P) → W0.heap.size ≤ b := fun b hb => by rcases hb with rfl | rfl; exact h.rB; exact p0
  have hnd := h.nd
  simp only [List.map_cons, List.nodup_cons] at hnd
  have hlen : ((tq, s.top) :: lq).length = lq.length + 1 := rfl
  refine ⟨Onl.below (Nat.le_refl _) h.bel k hS, h.rB, hR, h.pg, h.fm, h.om, ⟨m1c, ?_⟩, ?_, rfl, own_of c0 hC' (by omega) hC2 hC3 ?_, rfl, ?_, ?_, hnd.2, ?_, ?_, by rw [el]; rfl, rfl, rfl, h.nx, h.hp, h.fin, h.cd, h.st, h.iv.below (Onl.below h.bel.size (Below.refl _ _) k hS), own_onl h.ov k (fun g hg => ?_)⟩
  · rw [k.block m1 (Array.getElem?_eq_some_iff.1 hm1).1 (by rintro (e | e); exact bk_nmap h.rb hm1 e.symm; exact bk_nmap hPb hm1 e.symm)]; exact hm1
  · rw [k.block m2 (Array.getElem?_eq_some_iff.1 h.h2).1 (by rintro (e | e); exact bk_nmap h.rb h.h2 e.symm; exact bk_nmap hPb h.h2 e.symm)]; exact h.h2
  · have t := congrArg (List.take (lq.length * 7)) hC4
    rw [List.take_take, hlen, Nat.min_eq_left (by omega), rowV, List.take_append_of_le_length (by rw [rowV_len]; omega), List.take_of_length_le (l := rowV p lq) (by rw [rowV_len]; omega)] at t
    exact t
  · obtain ⟨⟨qs, t1, t2, t3, t4⟩⟩ := hP'
    rw [List.length_map] at t3 t4
    exact own_of p0 t1 (by omega) hp2 t2 t3
  · intro y hy
    obtain ⟨t1, t2⟩ := h.rg y (by simp [hy])
    exact ⟨t1, t2.onl k (by rintro (e | e); exact t2.ne h.rb (by decide) e; exact t2.ne hPb (by decide) e)⟩
  · intro y hy hk
    obtain ⟨t1, t2, t3⟩ := h.wd y (hm y hy hk) hk
    refine ⟨t1, t2.onl k (by rintro (e | e); exact t2.ne h.rb (by decide) e; exact t2.ne hPb (by decide) e), fun e => t3 (by simp [e])⟩
  · exact (hl.map (·.1)).nodup h.wn
  · obtain ⟨_, os, hO⟩ := h.bO hg
    rintro (e | e)
    · exact hO.ne h.rb (by decide) e
    · exact hO.ne hPb (by decide) e
end
section
open Go.RowKit Go.Shelf
variable {p : List Fun} {pp : Option Addr} {pc : Nat} {W0 : World} {R m1 m2 : Nat} {r : Rs} {C ca P pa : Nat} {gp : List (Nat × Par)} {W : World} {s : St} {tq : Nat} {lq : List (Nat × Cal)}
/-- Whose answer goes to a register of the call around it, or nowhere. -/
def AnsF (c : Cal) (low : List Cal) : Prop := ∀ t l, low = t :: l → c.an = -1 ∨ (0 ≤ c.an ∧ c.an < t.rg.length)
theorem back45 (h : RelD p pp pc W0 R m1 m2 r C ca P pa ((tq, s.top) :: lq) gp W s) (hn : lq.length < 1000000) (e0 : 0 ≤ s.en) (e1 : s.en ≤ 900000) (hgp : gp.length ≤ 1000000) (hfr : frOf p s.top.k ≤ 4096) (hA : AnsF s.top s.low) (v : Int) : Calls Tryz.prog 102 #[.pointer (some ⟨R, 0, none⟩), .int .i64 v] W fun e w' => e = .returned (.tuple #[]) ∧ OutD p pp pc W0 R m1 m2 w' (bakS p s v) := by
  obtain ⟨hP, hpv, hpa, hpm⟩ := h.prt
  obtain ⟨c0, cs, hC⟩ := h.bC
  have hls := h.ls
  simp only [List.map_cons, List.cons.injEq, true_and] at hls
  have ce : ∀ t v, (calV p (tq, s.top))[t]? = some v → W.cell? ⟨C, lq.length * 7 + t, none⟩ = some v := fun t v ht => own_cell h.co h.cv (by rw [rowV_at]; exact ht)
  obtain ⟨_, _, _, hca, _, _, _⟩ := own_bk h.co h.cv
  have hca : lq.length + 1 ≤ ca := hca
  obtain ⟨ba, bl, bc, hbv⟩ : ∃ ba bl bc, bvOf p s.top.k = .slice ba bl bc := by
    unfold bvOf
    cases p[s.top.k]? with
    | none => exact ⟨_, _, _, rfl⟩
    | some f => exact ⟨_, _, _, rfl⟩
  have d0 := ce 0 _ rfl
  rw [hbv, Nat.add_zero] at d0
  have hen : 0 ≤ r.en ∧ r.en ≤ 900000 := by rw [h.en]; exact ⟨e0, e1⟩
  have hlen : (gp.map ptO).length ≤ 1000000 := by rw [List.length_map]; exact hgp
  have E := parts_end gp r.en 1 s.top.fr ((frOf p s.top.k : Nat) : Int)
  have E2 := parts_snd gp r.en 1 s.top.fr ((frOf p s.top.k : Nat) : Int)
  obtain ⟨gp', hgp'⟩ : ∃ g, g = (enK kyG (fun t => (0, nilA t)) gp r.en 1 s.top.fr ((frOf p s.top.k : Nat) : Int)).2.1 := ⟨_, rfl⟩
  obtain ⟨en', hen'⟩ : ∃ g, g = (enK kyG (fun t => (0, nilA t)) gp r.en 1 s.top.fr ((frOf p s.top.k : Nat) : Int)).2.2 := ⟨_, rfl⟩
  have k2 : ∀ y ∈ gp', ¬ y.2.kd = 0 → y ∈ gp := by rw [hgp']; exact enG_mem _ _ _ _ _
  have k3 : List.Sublist (gp'.filter lvG) (gp.filter lvG) := by rw [hgp']; exact enG_live _ _ _ _ _
  rw [← hgp', ← hen'] at E E2
  have F1 : (enP (gp.map ptO) r.en 1 s.top.fr ((frOf p s.top.k : Nat) : Int)).2.1 = gp'.map ptO := by rw [E]
  have F2 : (enP (gp.map ptO) r.en 1 s.top.fr ((frOf p s.top.k : Nat) : Int)).2.2 = en' := by rw [E]
  have S1 : (endS s 1 s.top.fr ((frOf p s.top.k : Nat) : Int)).2 = { s with ps := gp'.map (·.2), en := en' } := by
    unfold endS
    rw [← h.gs, ← h.en, E2]
  cases lq with
  | nil =>
    have hlow : s.low = [] := hls.symm
    refine (back_last R P pa (pa * 3) C ca 0 s.top.fr ((frOf p s.top.k : Nat) : Int) v s.top.an s.top.b s.top.j ba (some ⟨tq, 0, none⟩) bl bc s.top.rg.length s.top.rg.length (gp.map ptO) r W h.rb hP ⟨cs, hC⟩ hpv h.cv hpa hen.1 hen.2 hlen hn hca d0 (ce 1 _ rfl) (ce 2 _ rfl) (ce 3 _ rfl) (ce 4 _ rfl) (ce 5 _ rfl) (ce 6 _ rfl) (by omega) (by omega) rfl).mono ?_
    rintro e w' ⟨rfl, k, hR, hP'⟩
    refine ⟨rfl, ?_⟩
    unfold bakS
    rw [hlow]
    obtain ⟨p0, pcs, hPb⟩ := h.bP
    have hS : ∀ b, (b = R ∨ b = P) → W0.heap.size ≤ b := fun b hb => by rcases hb with rfl | rfl; exact h.rB; exact p0
    refine ⟨_, Onl.below (Nat.le_refl _) h.bel k hS, h.rB, hR, rfl, rfl, h.st, own_onl h.ov k (fun g hg => ?_)⟩
    obtain ⟨_, os, hO⟩ := h.bO hg
    rintro (e | e)
    · exact hO.ne h.rb (by decide) e
    · exact hO.ne hPb (by decide) e
  | cons x l =>
    have hlow : s.low = x.2 :: l.map (·.2) := hls.symm
    have lc : ∀ t v, (calV p x)[t]? = some v → W.cell? ⟨C, l.length * 7 + t, none⟩ = some v := fun t v hv => low_cell h rfl t v hv
    have B := fun (W' : World) (k : Onl (fun b => b = R ∨ b = P) W W') (hR : Rb W' R { r with pv := .slice (some ⟨P, 0, none⟩) (enP (gp.map ptO) r.en 1 s.top.fr ((frOf p s.top.k : Nat) : Int)).2.1.length pa, en := (enP (gp.map ptO) r.en 1 s.top.fr ((frOf p s.top.k : Nat) : Int)).2.2, cv := .slice (some ⟨C, 0, none⟩) (x :: l).length ca }) (hP' : Prt W' P (enP (gp.map ptO) r.en 1 s.top.fr ((frOf p s.top.k : Nat) : Int)).2.1 (pa * 3)) => h.back rfl k (by rw [F1, F2, List.length_map] at hR; exact hR) (by rw [F1] at hP'; exact hP') k2 k3
    have hsk : bakS p s v = .inl { s with top := setR x.2 s.top.an v, low := l.map (·.2), ps := gp'.map (·.2), en := en' } := by
      unfold bakS
      rw [hlow]
      simp only [S1]
    rw [hsk]
    rcases hA x.2 (l.map (·.2)) hlow with ha | ha
    · refine (back_let R P pa (pa * 3) C ca (x :: l).length l.length s.top.fr ((frOf p s.top.k : Nat) : Int) v s.top.an s.top.b s.top.j ba (some ⟨tq, 0, none⟩) bl bc s.top.rg.length s.top.rg.length (gp.map ptO) r W h.rb hP ⟨cs, hC⟩ hpv h.cv hpa hen.1 hen.2 hlen hn hca d0 (ce 1 _ rfl) (ce 2 _ rfl) (ce 3 _ rfl) (ce 4 _ rfl) (ce 5 _ rfl) (ce 6 _ rfl) (by omega) (by omega) rfl ha).mono ?_
      rintro e w' ⟨rfl, k, hR, hP'⟩
      have t := B w' k hR hP'
      rw [show setR x.2 s.top.an v = x.2 by unfold setR; rw [if_pos ha]]
      exact ⟨rfl, _, _, _, _, _, _, _, t⟩
    · obtain ⟨d, hd⟩ : ∃ d : Nat, s.top.an = (d : Int) := ⟨s.top.an.toNat, by omega⟩
      have hdl : d < x.2.rg.length := by omega
      obtain ⟨q0, hQ⟩ := h.rg x (by simp)
      refine (back_more R P pa (pa * 3) C ca (x :: l).length l.length x.1 x.2.rg.length x.2.rg.length d x.2.rg[d] s.top.fr ((frOf p s.top.k : Nat) : Int) v s.top.an s.top.b s.top.j ba (some ⟨tq, 0, none⟩) bl bc s.top.rg.length s.top.rg.length (gp.map ptO) r W h.rb hP ⟨cs, hC⟩ hpv h.cv hpa hen.1 hen.2 hlen hn hca d0 (ce 1 _ rfl) (ce 2 _ rfl) (ce 3 _ rfl) (ce 4 _ rfl) (ce 5 _ rfl) (ce 6 _ rfl) (by omega) (by omega) rfl hd hdl (lc 1 _ rfl) ⟨_, hQ⟩ (hQ.at (List.getElem?_eq_getElem hdl))).mono ?_
      rintro e w' ⟨rfl, ⟨w3, k, hR, hP', n, rfl⟩⟩
      refine ⟨rfl, ?_⟩
      have t := B w3 k hR hP'
      rw [hd, setR_nat]
      have t2 := t.drew n
      have hls2 := t2.ls
      obtain ⟨cc0, ccs, hCC⟩ := t2.bC
      refine ⟨_, _, _, _, _, (x.1, { x.2 with rg := x.2.rg.set d v }) :: l, _, t2.regs (q := x.1) ((Onl.of_below (Below.refl _ _)).set (S := fun b => b = C ∨ b = x.1) (.inr rfl)) (by simp) (by simp) ?_ ?_ rfl rfl rfl rfl rfl rfl rfl rfl⟩
      · have e : rowV p ((x.1, { x.2 with rg := x.2.rg.set d v }) :: l) = rowV p (x :: l) := by
          rw [rowV, rowV, calV_rg p x.1 x.2 _ (by simp)]
        rw [e]
        refine own_set t2.co (fun e => ?_)
        rw [t2.cv] at e
        cases e
        exact (t2.rg x (by simp)).2.ne hCC (by decide) rfl
      · intro y hy
        rcases List.mem_cons.1 hy with rfl | hy
        · exact RgB.set (t2.rg x (by simp)).2 d v
        · have n1 := t2.nd
          simp only [List.map_cons, List.nodup_cons] at n1
          exact ((t2.rg y (by simp [hy])).2.other (fun e => n1.1 (by rw [← e]; exact List.mem_map.2 ⟨y, hy, rfl⟩)))
theorem step_ret (h : RelD p pp pc W0 R m1 m2 r C ca P pa ((tq, s.top) :: lq) gp W s) (hn : lq.length < 1000000) (e0 : 0 ≤ s.en) (e1 : s.en ≤ 900000) (hgp : gp.length ≤ 1000000) (hfr : frOf p s.top.k ≤ 4096) (hA : AnsF s.top s.low) {f : Fun} {bl : Blk} {i : Ins} (hc : CalF p s.top f bl i) (hj : s.top.j < 1000000) (hF : InsF f.h i (fdF p i.nm)) {g1 o1 bc g2 o2 ic : Nat} (hP : InsP W0 W p s.top f bl i g1 o1 bc g2 o2 ic) (hop : i.op = 10) : Calls Tryz.prog 72 #[.pointer (some ⟨R, 0, none⟩), .pointer (some ⟨g2, o2 + s.top.j * 9, none⟩)] W fun e w' => e = .returned (.tuple #[]) ∧ OutD p pp pc W0 R m1 m2 w' (stpS p s i) := by
  have hs := h.stpF
  obtain ⟨c0, _⟩ := h.bC
  have i0 := hP.ce 0 _ rfl
  have i2 := hP.ce 2 _ rfl
  rw [hop] at i0
  have e : stpS p s i = bakS p { s with top := { s.top with j := s.top.j + 1 } } (getR s.top i.a) := by
    unfold stpS
    rw [if_neg (by omega), if_neg (by omega), if_neg (by omega), if_neg (by omega), if_neg (by omega), if_neg (by omega), if_neg (by omega), if_neg (by omega), if_neg (by omega), if_pos hop]
    rfl
  rw [e]
  refine do_ret22g R C ca lq.length g2 (o2 + s.top.j * 9) s.top.j i.a (getR s.top i.a) (fun w' => OutD p pp pc W0 R m1 m2 w' (bakS p { s with top := { s.top with j := s.top.j + 1 } } (getR s.top i.a))) W hs.h3 hn hs.c5 (hs.z _) hj i0 i2 ?_ ?_ (by have := hP.lt; omega) hs.nRC
  · intro k
    have hx := RelD.stpF (s := { s with top := { s.top with j := s.top.j + 1 } }) (h.next k)
    rcases hF.ar hop with ha | ha
    · rw [ha]
      clear hx
      exact value_noneg C (lq.length * 7) _
    · obtain ⟨a, v, e2, hv, ev, _, hal, _⟩ := reg_at hc ha
      rw [ev, e2]
      exact value46g C (lq.length * 7) tq s.top.rg.length s.top.rg.length a v _ hx.c1 hal (hx.qv a v hv)
  · intro k
    exact back45 (s := { s with top := { s.top with j := s.top.j + 1 } }) (h.next k) hn e0 e1 hgp hfr hA _
end
section
open Go.RowKit Go.Shelf
set_option maxHeartbeats 1000000
theorem deep_op (R x o : Nat) (op : Int) (w : World) (h : w.cell? ⟨x, o, none⟩ = some (.int .i64 op)) (hop : ¬ op = 7) : Calls Tryz.prog 70 #[.pointer (some ⟨R, 0, none⟩), .pointer (some ⟨x, o, none⟩)] w fun e w' => e = .returned (.bool false) ∧ w' = w := by
  go_enter Tryz.func70, Tryz.ntmps70
  go_wp2
  go_ret
  exact ⟨rfl, rfl⟩
theorem deep_few (R x o n : Nat) (cp : Option Addr) (ca : Nat) (w : World) (h : w.cell? ⟨x, o, none⟩ = some (.int .i64 7)) (h3 : w.cell? ⟨R, 3, none⟩ = some (.slice cp n ca)) (hn : n < 1000) : Calls Tryz.prog 70 #[.pointer (some ⟨R, 0, none⟩), .pointer (some ⟨x, o, none⟩)] w fun e w' => e = .returned (.bool false) ∧ w' = w := by
  have hn' : (n : Int) < 1000 := by omega
  go_enter Tryz.func70, Tryz.ntmps70
  go_wp2
  go_ret
  exact ⟨rfl, rfl⟩
theorem deep_many (R x o n : Nat) (cp : Option Addr) (ca : Nat) (nm : ByteArray) (k : Int) (rt : Bool) (w : World) (h : w.cell? ⟨x, o, none⟩ = some (.int .i64 7)) (h5 : w.cell? ⟨x, o + 5, none⟩ = some (.string nm)) (h3 : w.cell? ⟨R, 3, none⟩ = some (.slice cp n ca)) (hn : 1000 ≤ n) (hr : rtV nm.toList = .tuple #[.int .i64 k, .bool rt]) : Calls Tryz.prog 70 #[.pointer (some ⟨R, 0, none⟩), .pointer (some ⟨x, o, none⟩)] w fun e w' => e = .returned (.bool (!rt)) ∧ w' = w := by
  have hn' : ¬ (n : Int) < 1000 := by omega
  have hC := runtimeArgs41 nm w
  rw [hr] at hC
  go_enter Tryz.func70, Tryz.ntmps70
  go_wp2_with (first | (go_at_call 99; refine hC.mono ?_; rintro e w' ⟨rfl, rfl⟩))
  go_ret
  exact ⟨rfl, rfl⟩
theorem read_none (R : Nat) (a : Option Addr) (c : Nat) (w : World) (h8 : w.cell? ⟨R, 8, none⟩ = some (.slice a 0 c)) : Calls Tryz.prog 134 #[.pointer (some ⟨R, 0, none⟩)] w fun e w' => e = .returned (.int .i64 (-1)) ∧ w' = w := by
  go_enter Tryz.func134, Tryz.ntmps134
  go_wp2
  go_ret
  exact ⟨rfl, rfl⟩
theorem read_one (R g o n c : Nat) (b : Nat) (w : World) (h8 : w.cell? ⟨R, 8, none⟩ = some (.slice (some ⟨g, o, none⟩) (n + 1) (c + 1))) (hc : n ≤ c) (hb : w.cell? ⟨g, o, none⟩ = some (.int .u8 b)) (hb' : b < 256) (z8 : w.frozen? ⟨R, 8, none⟩ = false) : Calls Tryz.prog 134 #[.pointer (some ⟨R, 0, none⟩)] w fun e w' => e = .returned (.int .i64 b) ∧ ∃ q, (0 < n → q = o + 1) ∧ w' = w.setCell ⟨R, 8, none⟩ (.slice (some ⟨g, q, none⟩) n c) := by
  cases c with
  | zero =>
    obtain rfl : n = 0 := by omega
    go_enter Tryz.func134, Tryz.ntmps134
    go_wp2
    go_ret
    exact ⟨rfl, o, by omega, rfl⟩
  | succ c =>
    go_enter Tryz.func134, Tryz.ntmps134
    go_wp2
    go_ret
    exact ⟨rfl, o + 1, fun _ => rfl, rfl⟩
end
section
open Go.RowKit Go.Shelf
set_option maxRecDepth 20000
set_option maxHeartbeats 2000000
theorem kept_cell {e : TypeId} {w w' : World} {b : Nat} {t : TypeId} {cs : List Value} {x : Option Nat} (h : Lib.OthersKept e x w w') (hb : Bk w b t cs) (hn : some b ≠ x) (ht : t ≠ e) : Bk w' b t cs := h b _ hb hn (fun c fz e => ht (by cases e; rfl))
theorem itoa_len (v : Int) (h0 : -9223372036854775808 ≤ v) (h1 : v ≤ 9223372036854775807) : (Lib.itoa v).length ≤ 64 := by
  have := Lib.itoa_length_le v h0 h1
  omega
theorem print54g (R B no : Nat) (v : Int) (r : Rs) (ox : List Value) (w : World) (hR : Rb w R r) (hBR : B ≤ R) (hO : w.ownsRow B 5 1 r.ov no ox) (hB : B ≤ w.heap.size) (hno : no ≤ 1000000000) (v0 : -9223372036854775808 ≤ v) (v1 : v ≤ 9223372036854775807) (hT : Lib.TabBelow Tryz.prog B w "internal/strconv.uint64pow10" .u64 Lib.pow10Tab) : Calls Tryz.prog 133 #[.pointer (some ⟨R, 0, none⟩), .int .i64 v] w fun e w' => e = .returned (.int .i64 0) ∧ ∃ ov, Rb w' R { r with ov := ov } ∧ w'.ownsRow B 5 1 ov (no + (Lib.itoa v).length + 1) (ox ++ (Lib.byteCells (Lib.itoa v) ++ [.int .u8 10])) ∧ Below B w w' ∧ Lib.OthersKept 5 (some R) w w' := by
  have hL := itoa_len v v0 v1
  have hC : Hid (Calls Tryz.prog 154 #[r.ov, .int .i64 v, .int .i64 10] w fun e w' => ∃ v', e = .returned v' ∧ w'.ownsRow B 5 1 v' (no + (Lib.itoa v).length) (ox ++ Lib.byteCells (Lib.itoa v)) ∧ Below B w w' ∧ Lib.OthersKept 5 none w w') := Tryz.strconv_AppendInt_10 B no v v0 v1 r.ov ox w hO hB (by omega) hT
  obtain ⟨i5, AN⟩ := info5'
  have AN : Hid (Tryz.prog.info? 5 = some i5 ∧ i5.zero = some (.int .u8 0) ∧ i5.size = 1 ∧ i5.bytes = 1) := AN
  have HR : Hid (Rb w R r) := hR
  have HH : Hid (no + (Lib.itoa v).length ≤ 1000000064 ∧ B ≤ w.heap.size ∧ B ≤ R) := ⟨by omega, hB, hBR⟩
  have r11 := hR.cell (j := 11) rfl
  clear hR hO hB hno hT hL v0 v1 hBR
  generalize Lib.itoa v = L at *
  go_enter Tryz.func133, Tryz.ntmps133
  go_wp2_with fail
  refine hC.out.mono ?_
  rintro e w1 ⟨v', rfl, ho, hb, hk⟩
  have HO : Hid (w1.ownsRow B 5 1 v' (no + L.length) (ox ++ Lib.byteCells L)) := ho
  have HB : Hid (Below B w w1) := hb
  have HK : Hid (Lib.OthersKept 5 none w w1) := hk
  have hR1 := kept_cell hk HR.out (by simp) (by decide)
  have HR1 : Hid (Rb w1 R r) := hR1
  have k11 := hR1.cell (j := 11) rfl
  have f11 := hR1.fz 11
  have hz := hR1.lt
  clear ho hb hk hR1
  go_wp2_with (at_builtin; refine wpList_append_own _ rfl _ _ 33 rfl B 5 i5 (.int .u8 0) 1 1 Tryz.underlying33 AN.out.1 AN.out.2.1 AN.out.2.2.1 AN.out.2.2.2 rfl (by decide) _ _ _ rfl (HO.out.alloc _) ⟨w1.heap.size, 0, none⟩ 1 1 [.int .u8 10] rfl (by rfl) (by intro j q hj; cases j with | zero => cases hj; exact new_one _ _ _ | succ j => cases hj) (by intro q hq; simp at hq; subst hq; rfl) (by unfold maxLen; have := HH.out.1; omega) (by have := HH.out.1; omega) (by have := HB.out.size; have := HH.out.2.1; simp; omega) ?_)
  rintro v2 w2 ho2 hg2 _
  obtain ⟨g, cap, rfl⟩ : ∃ g cap, v2 = .slice (some ⟨g, 0, none⟩) (no + L.length + 1) cap := by
    obtain ⟨_, ⟨_, h0⟩ | ⟨g, cap, cur, e, _⟩⟩ := ho2
    · cases h0
    · exact ⟨g, cap, e⟩
  have HO2 : Hid (w2.ownsRow B 5 1 (.slice (some ⟨g, 0, none⟩) (no + L.length + 1) cap) (no + L.length + 1) (ox ++ (Lib.byteCells L ++ [.int .u8 10]))) := ho2
  have hn2 : ∀ k t cs, t ≠ 5 → Bk w1 k t cs → Bk w2 k t cs := fun k t cs ht hk => grown_bk hg2 (hk.alloc _) (fun e => own_ne HO.out hk ht e.symm)
  have HK2 : Hid (Below B w w2 ∧ Lib.OthersKept 5 none w w2) := ⟨below_grown HH.out.2.1 (HB.out.alloc (Nat.le_trans HH.out.2.1 HB.out.size) _) hg2 (fun g hg => own_base HO.out hg), fun k o hk hn ho => by
    have h1 := HK.out k o hk hn ho
    have hlt := (Array.getElem?_eq_some_iff.1 h1).1
    have hne : some k ≠ v'.ownBlock := fun e => by
      obtain ⟨_, cur, hc⟩ := own_block HO.out e.symm
      unfold Bk at hc
      rw [h1] at hc
      cases hc
      exact ho _ _ rfl
    rw [hg2.block k (by simp; omega) hne, show (w1.alloc (.cells #[.int .u8 10] 5)).heap[k]? = w1.heap[k]? from ((Below.refl w1.heap.size w1).alloc (Nat.le_refl _) _).block k hlt]
    exact h1⟩
  have hR2 : Rb w2 R r := hn2 R 102 _ (by decide) HR1.out
  have HR2 : Hid (Rb w2 R r) := hR2
  have j11 := hR2.cell (j := 11) rfl
  have y11 := hR2.fz 11
  have hz2 := hR2.lt
  clear ho2 hg2 hn2 hR2 k11 f11 hz r11
  go_wp2
  go_ret
  refine ⟨rfl, .slice (some ⟨g, 0, none⟩) (no + L.length + 1) cap, HR2.out.set 11 _, own_set HO2.out (own_ne HO2.out HR2.out (by decide)), ?_, ?_⟩
  · exact below_grown HH.out.2.1 HK2.out.1 (grown_set w2 R 11 _) (fun k e => by cases e; exact HH.out.2.2)
  · intro k o hk hn ho
    rw [(grown_set w2 R 11 _).block k (Array.getElem?_eq_some_iff.1 (HK2.out.2 k o hk (by simp) ho)).1 hn]
    exact HK2.out.2 k o hk (by simp) ho
end
end Go.Proofs.YtdppoblbenbafaaGreatDoor
