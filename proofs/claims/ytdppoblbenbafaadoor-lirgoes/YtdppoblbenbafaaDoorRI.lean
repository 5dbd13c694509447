/- One step: a block is given back. -/
import Derived.Test.YtdppoblbenbafaaDoorXAV
namespace Go.Proofs.YtdppoblbenbafaaDoor
open Go.RowKit Go.Shelf
variable {p : List Fun} {pp : Option Addr} {pc : Nat} {W0 : World} {R m1 m2 : Nat} {r : Rs} {C ca P pa : Nat} {gl : List (Nat × Cal)} {gp : List (Nat × Par)} {W : World} {s : St} {tq : Nat} {lq : List (Nat × Cal)} {c : Cal} {f : Fun} {bl : Blk} {i : Ins} {g1 o1 bc g2 o2 ic : Nat}
/-- The answer of a call behind which the run has ended. -/
theorem fin_answer (h : RelD p pp pc W0 R m1 m2 r C ca P pa ((tq, s.top) :: lq) gp W s) (hn : lq.length < 100000) (a b d : Int) (k : Nat) (hd : d = -1 ∨ (0 ≤ d ∧ d < s.top.rg.length)) : Calls Tryd.prog 53 #[.pointer (some ⟨R, 0, none⟩), .int .i64 d, .int .i64 0] (((W.setCell ⟨R, 9, none⟩ (.int .i64 a)).setCell ⟨R, 10, none⟩ (.int .i64 b)).drewN k) fun e w' => e = .returned (.tuple #[]) ∧ EndD W0 R w' ⟨a, b, s.out, s.st⟩ := by
  have hy := h.stpF
  obtain ⟨q0, hQ⟩ := h.rg (tq, s.top) (by simp)
  have nqR : tq ≠ R := hQ.ne h.rb (by decide)
  have kR : Onl (fun b => b = R) W (((W.setCell ⟨R, 9, none⟩ (.int .i64 a)).setCell ⟨R, 10, none⟩ (.int .i64 b)).drewN k) := (((Onl.of_below (Below.refl _ _)).set (S := fun b => b = R) rfl).set rfl).drewN k
  have hR' : Rb (((W.setCell ⟨R, 9, none⟩ (.int .i64 a)).setCell ⟨R, 10, none⟩ (.int .i64 b)).drewN k) R { r with fin := a, cd := b } := (h.rb.set 9 (.int .i64 a)).set 10 (.int .i64 b)
  have hO : (((W.setCell ⟨R, 9, none⟩ (.int .i64 a)).setCell ⟨R, 10, none⟩ (.int .i64 b)).drewN k).ownsRow W0.heap.size 5 1 r.ov s.out.length (Lib.byteCells s.out) := own_onl h.ov kR (fun g hg e => by
    obtain ⟨_, os, hO⟩ := h.bO hg
    exact hO.ne h.rb (by decide) e)
  have hbl : Below W0.heap.size W0 (((W.setCell ⟨R, 9, none⟩ (.int .i64 a)).setCell ⟨R, 10, none⟩ (.int .i64 b)).drewN k) := Onl.below (Nat.le_refl _) h.bel kR (fun b e => by rw [e]; exact h.rB)
  rcases hd with hd | hd
  · rw [hd]
    refine (answer_none R 0 _).mono ?_
    rintro e w' ⟨rfl, rfl⟩
    exact ⟨rfl, _, hbl, h.rB, hR', rfl, rfl, h.st, hO⟩
  · obtain ⟨n, hnd⟩ : ∃ n : Nat, d = n := ⟨d.toNat, by omega⟩
    have hnl : n < s.top.rg.length := by omega
    rw [hnd]
    have hQ' : RgB (((W.setCell ⟨R, 9, none⟩ (.int .i64 a)).setCell ⟨R, 10, none⟩ (.int .i64 b)).drewN k) tq s.top.rg := hQ.onl kR (fun e => nqR e)
    have c1' : (((W.setCell ⟨R, 9, none⟩ (.int .i64 a)).setCell ⟨R, 10, none⟩ (.int .i64 b)).drewN k).cell? ⟨C, lq.length * 7 + 1, none⟩ = some (.slice (some ⟨tq, 0, none⟩) s.top.rg.length s.top.rg.length) := (World.cell?_of_block (kR.block C (World.block_lt_of_cell? _ _ hy.c1) (fun e => hy.nRC e.symm))).trans hy.c1
    have h3' : (((W.setCell ⟨R, 9, none⟩ (.int .i64 a)).setCell ⟨R, 10, none⟩ (.int .i64 b)).drewN k).cell? ⟨R, 3, none⟩ = some (.slice (some ⟨C, 0, none⟩) (lq.length + 1) ca) := by
      have t := hR'.cell (j := 3) rfl
      rw [t, show ({ r with fin := a, cd := b } : Rs).cv = r.cv from rfl, h.cv]
      rfl
    refine (answer53g R C ca lq.length tq s.top.rg.length s.top.rg.length n 0 s.top.rg[n] _ h3' (by omega) c1' hnl (hQ'.at (List.getElem?_eq_getElem hnl)) (hQ'.fz n)).mono ?_
    rintro e w' ⟨rfl, k2, rfl⟩
    have kq : Onl (fun b => b = tq) (((W.setCell ⟨R, 9, none⟩ (.int .i64 a)).setCell ⟨R, 10, none⟩ (.int .i64 b)).drewN k) (((((W.setCell ⟨R, 9, none⟩ (.int .i64 a)).setCell ⟨R, 10, none⟩ (.int .i64 b)).drewN k).drewN k2).setCell ⟨tq, n, none⟩ (.int .i64 0)) := (onl_drew _ k2 _).set rfl
    refine ⟨rfl, _, Onl.below (Nat.le_refl _) hbl kq (fun b e => by rw [e]; exact q0), h.rB, hR'.onl kq (fun e => nqR e.symm), rfl, rfl, h.st, own_onl hO kq (fun g hg e => ?_)⟩
    obtain ⟨_, os, hOb⟩ := own_block hO hg
    exact hOb.ne hQ' (by decide) e
/-- The parts have changed; the calls stay. -/
theorem RelD.ended (h : RelD p pp pc W0 R m1 m2 r C ca P pa gl gp W s) {W' : World} {e : Int} {gp' : List (Nat × Par)} (k : Onl (fun b => b = R ∨ b = P) W W') (hR : Rb W' R { r with pv := .slice (some ⟨P, 0, none⟩) gp'.length pa, en := e }) (hP' : Prt W' P (gp'.map ptO) (pa * 3)) (hm : ∀ y ∈ gp', ¬ y.2.kd = 0 → y ∈ gp) (hl : List.Sublist (gp'.filter lvG) (gp.filter lvG)) : RelD p pp pc W0 R m1 m2 { r with pv := .slice (some ⟨P, 0, none⟩) gp'.length pa, en := e } C ca P pa gl gp' W' { s with ps := gp'.map (·.2), en := e } := by
  obtain ⟨c0, cs, hC⟩ := h.bC
  obtain ⟨p0, pcs, hPb, hp1, hp2, hp3, hp4⟩ := own_bk h.po h.pv
  have k' : Onl (fun b => b = R ∨ b = P ∨ b = C) W W' := k.mono fun b hb => by
    rcases hb with hb | hb
    · exact .inl hb
    · exact .inr (.inl hb)
  refine h.make k' hR rfl rfl rfl rfl rfl h.cv (own_onl h.co k ?_) rfl ?_ (fun x hx => ⟨(h.rg x hx).1, h.rgs k' (h.rg x hx).2⟩) h.nd ?_ ?_ h.ls rfl rfl h.nx h.hp h.fin h.cd h.st rfl rfl
  · intro g hg
    rw [h.cv] at hg
    cases hg
    rintro (e | e)
    · exact hC.ne h.rb (by decide) e
    · exact hC.ne hPb (by decide) e
  · obtain ⟨⟨qs, t1, t2, t3, t4⟩⟩ := hP'
    rw [List.length_map] at t3 t4
    exact own_of p0 t1 (by omega) hp2 t2 t3
  · intro y hy hk
    obtain ⟨t1, t2, t3⟩ := h.wd y (hm y hy hk) hk
    exact ⟨t1, h.rgs k' t2, t3⟩
  · exact (hl.map (·.1)).nodup h.wn
theorem two_args (hP : InsP W0 W p c f bl i g1 o1 bc g2 o2 ic) (hl : i.gs.length = 2) : ∃ a b z zo, i.gs = [a, b] ∧ (∀ t, t < 2 → W.cell? ⟨z, zo + t, none⟩ = some (.int .i64 (i.gs.getD t 0))) ∧ W.cell? ⟨g2, o2 + c.j * 9 + 6, none⟩ = some (.slice (some ⟨z, zo, none⟩) 2 i.ac) := by
  obtain ⟨a, b, ha⟩ : ∃ a b, i.gs = [a, b] := by
    match h : i.gs with
    | [a, b] => exact ⟨a, b, rfl⟩
    | [] => rw [h] at hl; cases hl
    | [_] => rw [h] at hl; cases hl
    | _ :: _ :: _ :: _ => rw [h] at hl; simp at hl
  obtain ⟨_, _, h3⟩ := hP.ar
  obtain ⟨g, o, e, hk⟩ := h3 (by omega)
  have t := hP.ce 6 _ rfl
  rw [e, hl] at t
  refine ⟨a, b, g, o, ha, fun n hn => hk n _ ?_, t⟩
  have : n < i.gs.length := by omega
  rw [List.getElem?_eq_getElem this, List.getD_eq_getElem?_getD, List.getElem?_eq_getElem this]
  rfl
theorem call_frees (h : RelD p pp pc W0 R m1 m2 r C ca P pa ((tq, s.top) :: lq) gp W s) (hn : lq.length < 100000) (hP : InsP W0 W p c f bl i g1 o1 bc g2 o2 ic) (hg : ∀ y ∈ i.gs, 0 ≤ y ∧ y < s.top.rg.length) (hd : i.d = -1 ∨ (0 ≤ i.d ∧ i.d < s.top.rg.length)) (hl : i.gs.length = 2) (hnm : i.nm.data.toList = [114, 116, 46, 102, 114, 101, 101]) (hhp : 0 ≤ s.hp ∧ s.hp ≤ 8192) (hen : 0 ≤ s.en ∧ s.en ≤ 900000) (hgp : gp.length ≤ 1000000) (hc : ∀ a b, (endS s 2 a b).1 = true → 0 ≤ b ∧ b ≤ 1000000) : Calls Tryd.prog 44 #[.pointer (some ⟨R, 0, none⟩), .pointer (some ⟨g2, o2 + c.j * 9, none⟩)] W fun e w' => e = .returned (.tuple #[]) ∧ OutD p pp pc W0 R m1 m2 w' (calS p s i) := by
  have hs := h.stpF
  obtain ⟨a0, b0, z, zo, hgs, az, i6⟩ := two_args hP hl
  obtain ⟨na, va, ea, hva, gva, hal, _⟩ := reg_in s.top (hg a0 (by rw [hgs]; simp))
  obtain ⟨nb, vb, eb, hvb, gvb, hbl, _⟩ := reg_in s.top (hg b0 (by rw [hgs]; simp))
  have i1 := hP.ce 1 _ rfl
  have i5 := hP.ce 5 _ rfl
  rw [nm_of hnm] at i5
  have ev0 : (i.gs.map (getR s.top)).getD 0 0 = va := by rw [hgs]; simp [gva]
  have ev1 : (i.gs.map (getR s.top)).getD 1 0 = vb := by rw [hgs]; simp [gvb]
  have est : calS p s i = (if (endS s 2 va vb).1 = true then .inl { (endS s 2 va vb).2 with top := setR s.top i.d 0, hp := s.hp - vb } else .inr ⟨3, 0, s.out, s.st⟩) := by
    unfold calS
    rw [if_neg (by rw [hnm]; decide), if_neg (by rw [hnm]; decide), if_neg (by rw [hnm]; decide), if_pos hnm]
    simp only [ev0, ev1]
  -- the parts, both ways
  have E := parts_end gp r.en 2 va vb
  have E2 := parts_snd gp r.en 2 va vb
  obtain ⟨ok, hok⟩ : ∃ g, g = (enK kyG (fun t => (0, nilA t)) gp r.en 2 va vb).1 := ⟨_, rfl⟩
  obtain ⟨gp', hgp'⟩ : ∃ g, g = (enK kyG (fun t => (0, nilA t)) gp r.en 2 va vb).2.1 := ⟨_, rfl⟩
  obtain ⟨en', hen'⟩ : ∃ g, g = (enK kyG (fun t => (0, nilA t)) gp r.en 2 va vb).2.2 := ⟨_, rfl⟩
  have k2 : ∀ y ∈ gp', ¬ y.2.kd = 0 → y ∈ gp := by rw [hgp']; exact enG_mem _ _ _ _ _
  have k3 : List.Sublist (gp'.filter lvG) (gp.filter lvG) := by rw [hgp']; exact enG_live _ _ _ _ _
  rw [← hok, ← hgp', ← hen'] at E E2
  have F0 : (enP (gp.map ptO) r.en 2 va vb).1 = ok := by rw [E]
  have F1 : (enP (gp.map ptO) r.en 2 va vb).2.1 = gp'.map ptO := by rw [E]
  have F2 : (enP (gp.map ptO) r.en 2 va vb).2.2 = en' := by rw [E]
  have S1 : endS s 2 va vb = (ok, { s with ps := gp'.map (·.2), en := en' }) := by
    unfold endS
    rw [← h.gs, ← h.en, E2]
  have hen2 : 0 ≤ r.en ∧ r.en ≤ 900000 := by rw [h.en]; exact hen
  have gs2 : ∀ t, t < 2 → (i.gs.getD t 0).toNat < s.top.rg.length := fun t ht => by
    have : t = 0 ∨ t = 1 := by omega
    rcases this with rfl | rfl <;> rw [hgs] <;> simp [ea, eb, hal, hbl]
  have C1 := fun (T : World → Prop) (Q : World → Prop) (hop : ∀ W', Below W.heap.size W W' → Calls Tryd.prog 57 #[.pointer (some ⟨R, 0, none⟩), .int .i64 va, .int .i64 vb] W' fun e w' => e = .returned (.int .i64 0) ∧ w'.cell? ⟨g2, o2 + c.j * 9 + 1, none⟩ = some (.int .i64 i.d) ∧ T w') (han : ∀ W', T W' → Calls Tryd.prog 53 #[.pointer (some ⟨R, 0, none⟩), .int .i64 i.d, .int .i64 0] W' fun e w' => e = .returned (.tuple #[]) ∧ Q w') => call_free R C ca lq.length g2 (o2 + c.j * 9) i.ac 2 s.top.rg.length s.top.rg.length tq z zo va vb T (fun t => (i.gs.getD t 0).toNat) [va, vb] i.d Q W hs.h3 (by omega) (by omega) rfl hs.c1 gs2 (by
      intro t u hu
      have ht : t < 2 := (List.getElem?_eq_some_iff.1 hu).1
      have : t = 0 ∨ t = 1 := by omega
      rcases this with rfl | rfl
      · cases hu; rw [hgs]; simp only [List.getD_cons_zero, ea, Int.toNat_natCast]; exact hs.qv na va hva
      · cases hu; rw [hgs]; simp only [List.getD_cons_succ, List.getD_cons_zero, eb, Int.toNat_natCast]; exact hs.qv nb vb hvb) (by
      intro t ht
      have h1 := az t ht
      have : t = 0 ∨ t = 1 := by omega
      rcases this with rfl | rfl <;> rw [hgs] at h1 ⊢ <;> simp only [List.getD_cons_succ, List.getD_cons_zero, ea, eb, Int.toNat_natCast] at h1 ⊢ <;> exact h1) i1 i5 i6 rfl hop han
  rw [est, S1]
  cases ok with
  | true =>
    simp only [if_true]
    have hvb := hc va vb (by rw [S1])
    refine C1 (fun W' => ∃ r', RelD p pp pc W0 R m1 m2 r' C ca P pa ((tq, s.top) :: lq) gp' W' { s with ps := gp'.map (·.2), en := en', hp := s.hp - vb }) _ ?_ ?_
    · intro W' hb
      have hx := h.grow hb
      obtain ⟨hPr, hpv, hpa, _⟩ := hx.prt
      refine (free_yes R P pa (pa * 3) va vb (gp.map ptO) r W' hx.rb hPr hpv hpa hen2.1 hen2.2 (by rw [List.length_map]; exact hgp) F0 hvb (by rw [h.hp]; omega)).mono ?_
      rintro e w' ⟨rfl, w2, q1, q2, q3, rfl⟩
      rw [F1, F2, List.length_map] at q2
      rw [F1] at q3
      have hy := hx.ended q1 q2 q3 k2 k3
      have kR : Onl (fun b => b = R) w2 (w2.setCell ⟨R, 7, none⟩ (.int .i64 (r.hp - vb))) := (Onl.of_below (Below.refl _ _)).set rfl
      have hb2 : Below W0.heap.size w2 (w2.setCell ⟨R, 7, none⟩ (.int .i64 (r.hp - vb))) := Onl.below hy.bel.size (Below.refl _ _) kR (fun b e => by rw [e]; exact h.rB)
      have hbW : Below W0.heap.size W' w2 := Onl.below hx.bel.size (Below.refl _ _) q1 (fun b e => by
        rcases e with e | e
        · rw [e]; exact h.rB
        · rw [e]; exact h.bP.1)
      refine ⟨rfl, hP.cell_on (((hb.mono h.bel.size).trans hbW).trans hb2) rfl, { r with pv := .slice (some ⟨P, 0, none⟩) gp'.length pa, en := en', hp := r.hp - vb }, ?_⟩
      exact hy.run kR (hy.rb.set 7 (.int .i64 (r.hp - vb))) rfl rfl rfl rfl rfl rfl h.ls rfl rfl h.nx (by show r.hp - vb = s.hp - vb; rw [h.hp]) (hy.iv.below hb2) rfl h.st h.fin h.cd
    · rintro W' ⟨r', hx⟩
      exact answer_any hx (by simp only [List.length_cons]; omega) i.d 0 hd
  | false =>
    rw [if_neg (by simp)]
    refine C1 (fun W' => ∃ r' W1, RelD p pp pc W0 R m1 m2 r' C ca P pa ((tq, s.top) :: lq) gp' W1 { s with ps := gp'.map (·.2), en := en' } ∧ W' = (W1.setCell ⟨R, 9, none⟩ (.int .i64 3)).setCell ⟨R, 10, none⟩ (.int .i64 0)) _ ?_ ?_
    · intro W' hb
      have hx := h.grow hb
      obtain ⟨hPr, hpv, hpa, _⟩ := hx.prt
      refine (free_no R P pa (pa * 3) va vb (gp.map ptO) r W' hx.rb hPr hpv hpa hen2.1 hen2.2 (by rw [List.length_map]; exact hgp) F0).mono ?_
      rintro e w' ⟨rfl, w2, q1, q2, q3, rfl⟩
      rw [F1, F2, List.length_map] at q2
      rw [F1] at q3
      have hy := hx.ended q1 q2 q3 k2 k3
      have kR : Onl (fun b => b = R) w2 ((w2.setCell ⟨R, 9, none⟩ (.int .i64 3)).setCell ⟨R, 10, none⟩ (.int .i64 0)) := ((Onl.of_below (Below.refl _ _)).set (S := fun b => b = R) rfl).set rfl
      have hb2 : Below W0.heap.size w2 ((w2.setCell ⟨R, 9, none⟩ (.int .i64 3)).setCell ⟨R, 10, none⟩ (.int .i64 0)) := Onl.below hy.bel.size (Below.refl _ _) kR (fun b e => by rw [e]; exact h.rB)
      have hbW : Below W0.heap.size W' w2 := Onl.below hx.bel.size (Below.refl _ _) q1 (fun b e => by
        rcases e with e | e
        · rw [e]; exact h.rB
        · rw [e]; exact h.bP.1)
      exact ⟨rfl, hP.cell_on (((hb.mono h.bel.size).trans hbW).trans hb2) rfl, _, w2, hy, rfl⟩
    · rintro W' ⟨r', W1, hx, rfl⟩
      exact fin_answer (s := { s with ps := gp'.map (·.2), en := en' }) hx hn 3 0 i.d 0 hd
end Go.Proofs.YtdppoblbenbafaaDoor
