/- One step: a block is given back. A run, plainly: what a right program keeps. -/
import Derived.Test.YtdppoblbenbafaaGreatDoorYAX
namespace Go.Proofs.YtdppoblbenbafaaGreatDoor
section
open Go.RowKit Go.Shelf
variable {p : List Fun} {pp : Option Addr} {pc : Nat} {W0 : World} {R m1 m2 : Nat} {r : Rs} {C ca P pa : Nat} {gl : List (Nat × Cal)} {gp : List (Nat × Par)} {W : World} {s : St} {tq : Nat} {lq : List (Nat × Cal)} {c : Cal} {f : Fun} {bl : Blk} {i : Ins} {g1 o1 bc g2 o2 ic : Nat}
/-- The answer of a call behind which the run has ended. -/
theorem fin_answer (h : RelD p pp pc W0 R m1 m2 r C ca P pa ((tq, s.top) :: lq) gp W s) (hn : lq.length < 100000) (a b d : Int) (k : Nat) (hd : d = -1 ∨ (0 ≤ d ∧ d < s.top.rg.length)) : Calls Tryz.prog 132 #[.pointer (some ⟨R, 0, none⟩), .int .i64 d, .int .i64 0] (((W.setCell ⟨R, 9, none⟩ (.int .i64 a)).setCell ⟨R, 10, none⟩ (.int .i64 b)).drewN k) fun e w' => e = .returned (.tuple #[]) ∧ EndD W0 R w' ⟨a, b, s.out, s.st⟩ := by
  have hy := h.stpF
  obtain ⟨q0, hQ⟩ := h.rg (tq, s.top) (by simp)
  have nqR : tq ≠ R := hQ.ne h.rb (by decide)
  have kR : Onl (fun b => b = R) W (((W.setCell ⟨R, 9, none⟩ (.int .i64 a)).setCell ⟨R, 10, none⟩ (.int .i64 b)).drewN k) := (((Onl.of_below (Below.refl _ _)).set (S := fun b => b = R) rfl).set rfl).drewN k
  have hR' : Rb (((W.setCell ⟨R, 9, none⟩ (.int .i64 a)).setCell ⟨R, 10, none⟩ (.int .i64 b)).drewN k) R { r with fin := a, cd := b } := (h.rb.set 9 (.int .i64 a)).set 10 (.int .i64 b)
  have hO : (((W.setCell ⟨R, 9, none⟩ (.int .i64 a)).setCell ⟨R, 10, none⟩ (.int .i64 b)).drewN k).ownsRow W0.heap.size 5 1 r.ov s.out.length (Lib.byteCells s.out) := own_onl h.ov kR (fun g hg e => by
    obtain ⟨_, os, hO⟩ := h.bO hg
    exact hO.ne h.rb (by decide) e)
  have hbl : Below W0.heap.size W0 (((W.setCell ⟨R, 9, none⟩ (.int .i64 a)).setCell ⟨R, 10, none⟩ (.int .i64 b)).drewN k) := Onl.below (Nat.le_refl _) h.bel kR (fun b e => by rw [e]; exact h.rB)
  rcases hd with hd | hd
  · rw [hd]
    refine (answer_none R 0 _).mono ?_
    rintro e w' ⟨rfl, rfl⟩
    exact ⟨rfl, _, hbl, h.rB, hR', rfl, rfl, h.st, hO⟩
  · obtain ⟨n, hnd⟩ : ∃ n : Nat, d = n := ⟨d.toNat, by omega⟩
    have hnl : n < s.top.rg.length := by omega
    rw [hnd]
    have hQ' : RgB (((W.setCell ⟨R, 9, none⟩ (.int .i64 a)).setCell ⟨R, 10, none⟩ (.int .i64 b)).drewN k) tq s.top.rg := hQ.onl kR (fun e => nqR e)
    have c1' : (((W.setCell ⟨R, 9, none⟩ (.int .i64 a)).setCell ⟨R, 10, none⟩ (.int .i64 b)).drewN k).cell? ⟨C, lq.length * 7 + 1, none⟩ = some (.slice (some ⟨tq, 0, none⟩) s.top.rg.length s.top.rg.length) := (World.cell?_of_block (kR.block C (World.block_lt_of_cell? _ _ hy.c1) (fun e => hy.nRC e.symm))).trans hy.c1
    have h3' : (((W.setCell ⟨R, 9, none⟩ (.int .i64 a)).setCell ⟨R, 10, none⟩ (.int .i64 b)).drewN k).cell? ⟨R, 3, none⟩ = some (.slice (some ⟨C, 0, none⟩) (lq.length + 1) ca) := by
      have t := hR'.cell (j := 3) rfl
      rw [t, show ({ r with fin := a, cd := b } : Rs).cv = r.cv from rfl, h.cv]
      rfl
    refine (answer53g R C ca lq.length tq s.top.rg.length s.top.rg.length n 0 s.top.rg[n] _ h3' (by omega) c1' hnl (hQ'.at (List.getElem?_eq_getElem hnl)) (hQ'.fz n)).mono ?_
    rintro e w' ⟨rfl, k2, rfl⟩
    have kq : Onl (fun b => b = tq) (((W.setCell ⟨R, 9, none⟩ (.int .i64 a)).setCell ⟨R, 10, none⟩ (.int .i64 b)).drewN k) (((((W.setCell ⟨R, 9, none⟩ (.int .i64 a)).setCell ⟨R, 10, none⟩ (.int .i64 b)).drewN k).drewN k2).setCell ⟨tq, n, none⟩ (.int .i64 0)) := (onl_drew _ k2 _).set rfl
    refine ⟨rfl, _, Onl.below (Nat.le_refl _) hbl kq (fun b e => by rw [e]; exact q0), h.rB, hR'.onl kq (fun e => nqR e.symm), rfl, rfl, h.st, own_onl hO kq (fun g hg e => ?_)⟩
    obtain ⟨_, os, hOb⟩ := own_block hO hg
    exact hOb.ne hQ' (by decide) e
/-- The parts have changed; the calls stay. -/
theorem RelD.ended (h : RelD p pp pc W0 R m1 m2 r C ca P pa gl gp W s) {W' : World} {e : Int} {gp' : List (Nat × Par)} (k : Onl (fun b => b = R ∨ b = P) W W') (hR : Rb W' R { r with pv := .slice (some ⟨P, 0, none⟩) gp'.length pa, en := e }) (hP' : Prt W' P (gp'.map ptO) (pa * 3)) (hm : ∀ y ∈ gp', ¬ y.2.kd = 0 → y ∈ gp) (hl : List.Sublist (gp'.filter lvG) (gp.filter lvG)) : RelD p pp pc W0 R m1 m2 { r with pv := .slice (some ⟨P, 0, none⟩) gp'.length pa, en := e } C ca P pa gl gp' W' { s with ps := gp'.map (·.2), en := e } := by
  obtain ⟨c0, cs, hC⟩ := h.bC
  obtain ⟨p0, pcs, hPb, hp1, hp2, hp3, hp4⟩ := own_bk h.po h.pv
  have k' : Onl (fun b => b = R ∨ b = P ∨ b = C) W W' := k.mono fun b hb => by
    rcases hb with hb | hb
    · exact .inl hb
    · exact .inr (.inl hb)
  refine h.make k' hR rfl rfl rfl rfl rfl h.cv (own_onl h.co k ?_) rfl ?_ (fun x hx => ⟨(h.rg x hx).1, h.rgs k' (h.rg x hx).2⟩) h.nd ?_ ?_ h.ls rfl rfl h.nx h.hp h.fin h.cd h.st rfl rfl
  · intro g hg
    rw [h.cv] at hg
    cases hg
    rintro (e | e)
    · exact hC.ne h.rb (by decide) e
    · exact hC.ne hPb (by decide) e
  · obtain ⟨⟨qs, t1, t2, t3, t4⟩⟩ := hP'
    rw [List.length_map] at t3 t4
    exact own_of p0 t1 (by omega) hp2 t2 t3
  · intro y hy hk
    obtain ⟨t1, t2, t3⟩ := h.wd y (hm y hy hk) hk
    exact ⟨t1, h.rgs k' t2, t3⟩
  · exact (hl.map (·.1)).nodup h.wn
theorem two_args (hP : InsP W0 W p c f bl i g1 o1 bc g2 o2 ic) (hl : i.gs.length = 2) : ∃ a b z zo, i.gs = [a, b] ∧ (∀ t, t < 2 → W.cell? ⟨z, zo + t, none⟩ = some (.int .i64 (i.gs.getD t 0))) ∧ W.cell? ⟨g2, o2 + c.j * 9 + 6, none⟩ = some (.slice (some ⟨z, zo, none⟩) 2 i.ac) := by
  obtain ⟨a, b, ha⟩ : ∃ a b, i.gs = [a, b] := by
    match h : i.gs with
    | [a, b] => exact ⟨a, b, rfl⟩
    | [] => rw [h] at hl; cases hl
    | [_] => rw [h] at hl; cases hl
    | _ :: _ :: _ :: _ => rw [h] at hl; simp at hl
  obtain ⟨_, _, h3⟩ := hP.ar
  obtain ⟨g, o, e, hk⟩ := h3 (by omega)
  have t := hP.ce 6 _ rfl
  rw [e, hl] at t
  refine ⟨a, b, g, o, ha, fun n hn => hk n _ ?_, t⟩
  have : n < i.gs.length := by omega
  rw [List.getElem?_eq_getElem this, List.getD_eq_getElem?_getD, List.getElem?_eq_getElem this]
  rfl
theorem call_frees (h : RelD p pp pc W0 R m1 m2 r C ca P pa ((tq, s.top) :: lq) gp W s) (hn : lq.length < 100000) (hP : InsP W0 W p c f bl i g1 o1 bc g2 o2 ic) (hg : ∀ y ∈ i.gs, 0 ≤ y ∧ y < s.top.rg.length) (hd : i.d = -1 ∨ (0 ≤ i.d ∧ i.d < s.top.rg.length)) (hl : i.gs.length = 2) (hnm : i.nm.data.toList = [114, 116, 46, 102, 114, 101, 101]) (hhp : 0 ≤ s.hp ∧ s.hp ≤ 8192) (hen : 0 ≤ s.en ∧ s.en ≤ 900000) (hgp : gp.length ≤ 1000000) (hc : ∀ a b, (endS s 2 a b).1 = true → 0 ≤ b ∧ b ≤ 1000000) : Calls Tryz.prog 101 #[.pointer (some ⟨R, 0, none⟩), .pointer (some ⟨g2, o2 + c.j * 9, none⟩)] W fun e w' => e = .returned (.tuple #[]) ∧ OutD p pp pc W0 R m1 m2 w' (calS p s i) := by
  have hs := h.stpF
  obtain ⟨a0, b0, z, zo, hgs, az, i6⟩ := two_args hP hl
  obtain ⟨na, va, ea, hva, gva, hal, _⟩ := reg_in s.top (hg a0 (by rw [hgs]; simp))
  obtain ⟨nb, vb, eb, hvb, gvb, hbl, _⟩ := reg_in s.top (hg b0 (by rw [hgs]; simp))
  have i1 := hP.ce 1 _ rfl
  have i5 := hP.ce 5 _ rfl
  rw [nm_of hnm] at i5
  have ev0 : (i.gs.map (getR s.top)).getD 0 0 = va := by rw [hgs]; simp [gva]
  have ev1 : (i.gs.map (getR s.top)).getD 1 0 = vb := by rw [hgs]; simp [gvb]
  have est : calS p s i = (if (endS s 2 va vb).1 = true then .inl { (endS s 2 va vb).2 with top := setR s.top i.d 0, hp := s.hp - vb } else .inr ⟨3, 0, s.out, s.st⟩) := by
    unfold calS
    rw [if_neg (by rw [hnm]; decide), if_neg (by rw [hnm]; decide), if_neg (by rw [hnm]; decide), if_pos hnm]
    simp only [ev0, ev1]
  -- the parts, both ways
  have E := parts_end gp r.en 2 va vb
  have E2 := parts_snd gp r.en 2 va vb
  obtain ⟨ok, hok⟩ : ∃ g, g = (enK kyG (fun t => (0, nilA t)) gp r.en 2 va vb).1 := ⟨_, rfl⟩
  obtain ⟨gp', hgp'⟩ : ∃ g, g = (enK kyG (fun t => (0, nilA t)) gp r.en 2 va vb).2.1 := ⟨_, rfl⟩
  obtain ⟨en', hen'⟩ : ∃ g, g = (enK kyG (fun t => (0, nilA t)) gp r.en 2 va vb).2.2 := ⟨_, rfl⟩
  have k2 : ∀ y ∈ gp', ¬ y.2.kd = 0 → y ∈ gp := by rw [hgp']; exact enG_mem _ _ _ _ _
  have k3 : List.Sublist (gp'.filter lvG) (gp.filter lvG) := by rw [hgp']; exact enG_live _ _ _ _ _
  rw [← hok, ← hgp', ← hen'] at E E2
  have F0 : (enP (gp.map ptO) r.en 2 va vb).1 = ok := by rw [E]
  have F1 : (enP (gp.map ptO) r.en 2 va vb).2.1 = gp'.map ptO := by rw [E]
  have F2 : (enP (gp.map ptO) r.en 2 va vb).2.2 = en' := by rw [E]
  have S1 : endS s 2 va vb = (ok, { s with ps := gp'.map (·.2), en := en' }) := by
    unfold endS
    rw [← h.gs, ← h.en, E2]
  have hen2 : 0 ≤ r.en ∧ r.en ≤ 900000 := by rw [h.en]; exact hen
  have gs2 : ∀ t, t < 2 → (i.gs.getD t 0).toNat < s.top.rg.length := fun t ht => by
    have : t = 0 ∨ t = 1 := by omega
    rcases this with rfl | rfl <;> rw [hgs] <;> simp [ea, eb, hal, hbl]
  have C1 := fun (T : World → Prop) (Q : World → Prop) (hop : ∀ W', Below W.heap.size W W' → Calls Tryz.prog 136 #[.pointer (some ⟨R, 0, none⟩), .int .i64 va, .int .i64 vb] W' fun e w' => e = .returned (.int .i64 0) ∧ w'.cell? ⟨g2, o2 + c.j * 9 + 1, none⟩ = some (.int .i64 i.d) ∧ T w') (han : ∀ W', T W' → Calls Tryz.prog 132 #[.pointer (some ⟨R, 0, none⟩), .int .i64 i.d, .int .i64 0] W' fun e w' => e = .returned (.tuple #[]) ∧ Q w') => call_free R C ca lq.length g2 (o2 + c.j * 9) i.ac 2 s.top.rg.length s.top.rg.length tq z zo va vb T (fun t => (i.gs.getD t 0).toNat) [va, vb] i.d Q W hs.h3 (by omega) (by omega) rfl hs.c1 gs2 (by
      intro t u hu
      have ht : t < 2 := (List.getElem?_eq_some_iff.1 hu).1
      have : t = 0 ∨ t = 1 := by omega
      rcases this with rfl | rfl
      · cases hu; rw [hgs]; simp only [List.getD_cons_zero, ea, Int.toNat_natCast]; exact hs.qv na va hva
      · cases hu; rw [hgs]; simp only [List.getD_cons_succ, List.getD_cons_zero, eb, Int.toNat_natCast]; exact hs.qv nb vb hvb) (by
      intro t ht
      have h1 := az t ht
      have : t = 0 ∨ t = 1 := by omega
      rcases this with rfl | rfl <;> rw [hgs] at h1 ⊢ <;> simp only [List.getD_cons_succ, List.getD_cons_zero, ea, eb, Int.toNat_natCast] at h1 ⊢ <;> exact h1) i1 i5 i6 rfl hop han
  rw [est, S1]
  cases ok with
  | true =>
    simp only [if_true]
    have hvb := hc va vb (by rw [S1])
    refine C1 (fun W' => ∃ r', RelD p pp pc W0 R m1 m2 r' C ca P pa ((tq, s.top) :: lq) gp' W' { s with ps := gp'.map (·.2), en := en', hp := s.hp - vb }) _ ?_ ?_
    · intro W' hb
      have hx := h.grow hb
      obtain ⟨hPr, hpv, hpa, _⟩ := hx.prt
      refine (free_yes R P pa (pa * 3) va vb (gp.map ptO) r W' hx.rb hPr hpv hpa hen2.1 hen2.2 (by rw [List.length_map]; exact hgp) F0 hvb (by rw [h.hp]; omega)).mono ?_
      rintro e w' ⟨rfl, w2, q1, q2, q3, rfl⟩
      rw [F1, F2, List.length_map] at q2
      rw [F1] at q3
      have hy := hx.ended q1 q2 q3 k2 k3
      have kR : Onl (fun b => b = R) w2 (w2.setCell ⟨R, 7, none⟩ (.int .i64 (r.hp - vb))) := (Onl.of_below (Below.refl _ _)).set rfl
      have hb2 : Below W0.heap.size w2 (w2.setCell ⟨R, 7, none⟩ (.int .i64 (r.hp - vb))) := Onl.below hy.bel.size (Below.refl _ _) kR (fun b e => by rw [e]; exact h.rB)
      have hbW : Below W0.heap.size W' w2 := Onl.below hx.bel.size (Below.refl _ _) q1 (fun b e => by
        rcases e with e | e
        · rw [e]; exact h.rB
        · rw [e]; exact h.bP.1)
      refine ⟨rfl, hP.cell_on (((hb.mono h.bel.size).trans hbW).trans hb2) rfl, { r with pv := .slice (some ⟨P, 0, none⟩) gp'.length pa, en := en', hp := r.hp - vb }, ?_⟩
      exact hy.run kR (hy.rb.set 7 (.int .i64 (r.hp - vb))) rfl rfl rfl rfl rfl rfl h.ls rfl rfl h.nx (by show r.hp - vb = s.hp - vb; rw [h.hp]) (hy.iv.below hb2) rfl h.st h.fin h.cd
    · rintro W' ⟨r', hx⟩
      exact answer_any hx (by simp only [List.length_cons]; omega) i.d 0 hd
  | false =>
    rw [if_neg (by simp)]
    refine C1 (fun W' => ∃ r' W1, RelD p pp pc W0 R m1 m2 r' C ca P pa ((tq, s.top) :: lq) gp' W1 { s with ps := gp'.map (·.2), en := en' } ∧ W' = (W1.setCell ⟨R, 9, none⟩ (.int .i64 3)).setCell ⟨R, 10, none⟩ (.int .i64 0)) _ ?_ ?_
    · intro W' hb
      have hx := h.grow hb
      obtain ⟨hPr, hpv, hpa, _⟩ := hx.prt
      refine (free_no R P pa (pa * 3) va vb (gp.map ptO) r W' hx.rb hPr hpv hpa hen2.1 hen2.2 (by rw [List.length_map]; exact hgp) F0).mono ?_
      rintro e w' ⟨rfl, w2, q1, q2, q3, rfl⟩
      rw [F1, F2, List.length_map] at q2
      rw [F1] at q3
      have hy := hx.ended q1 q2 q3 k2 k3
      have kR : Onl (fun b => b = R) w2 ((w2.setCell ⟨R, 9, none⟩ (.int .i64 3)).setCell ⟨R, 10, none⟩ (.int .i64 0)) := ((Onl.of_below (Below.refl _ _)).set (S := fun b => b = R) rfl).set rfl
      have hb2 : Below W0.heap.size w2 ((w2.setCell ⟨R, 9, none⟩ (.int .i64 3)).setCell ⟨R, 10, none⟩ (.int .i64 0)) := Onl.below hy.bel.size (Below.refl _ _) kR (fun b e => by rw [e]; exact h.rB)
      have hbW : Below W0.heap.size W' w2 := Onl.below hx.bel.size (Below.refl _ _) q1 (fun b e => by
        rcases e with e | e
        · rw [e]; exact h.rB
        · rw [e]; exact h.bP.1)
      exact ⟨rfl, hP.cell_on (((hb.mono h.bel.size).trans hbW).trans hb2) rfl, _, w2, hy, rfl⟩
    · rintro W' ⟨r', W1, hx, rfl⟩
      exact fin_answer (s := { s with ps := gp'.map (·.2), en := en' }) hx hn 3 0 i.d 0 hd
end
section
open Go.RowKit Go.Shelf
/-- A program that is right, its numbers of 64 bits. -/
structure PrF (p : List Fun) : Prop where
  pr : prB p = true
  n64 : N64 p
  bl : ∀ x ∈ p, x.h.bl = x.bs.length
def AtF (p : List Fun) (c : Cal) : Prop := ∃ f bl i, CalF p c f bl i
def AnsL : Cal → List Cal → Prop
  | _, [] => True
  | c, t :: r => (c.an = -1 ∨ (0 ≤ c.an ∧ c.an < t.rg.length)) ∧ AnsL t r
/-- The words of all blocks of the heap. -/
def hA (x : Par) : Nat := if x.kd = 2 then x.ws.length else 0
def sumH (l : List Par) : Nat := (l.map hA).sum
theorem sumH_set : ∀ (l : List Par) (k : Nat) (a b : Par), l[k]? = some a → sumH (l.set k b) + hA a = sumH l + hA b
  | [], _, _, _, h => by cases h
  | x :: l, 0, a, b, h => by cases h; simp [sumH]; omega
  | x :: l, k + 1, a, b, h => by
    have := sumH_set l k a b h
    simp [sumH] at this ⊢
    omega
theorem sumH_filter (l : List Par) : sumH (l.filter fun a => decide (¬ (kyA a).1 = 0)) = sumH l := by
  induction l with
  | nil => rfl
  | cons x l ih =>
    rw [List.filter_cons]
    by_cases h : x.kd = 0
    · rw [if_neg (by simp [kyA, h]), ih]
      simp [sumH, hA, h]
    · rw [if_pos (by simp [kyA, h])]
      simp [sumH] at ih ⊢
      exact ih
theorem sumH_td (l : List Par) (e : Int) : sumH (tdK kyA l e).1 = sumH l := by
  unfold tdK
  split
  · rfl
  · exact sumH_filter l
theorem enK_ok {l : List Par} {e kind t c : Int} (h : (enK kyA nilA l e kind t c).1 = true) : ∃ (k : Nat) (a : Par), l[k]? = some a ∧ a.kd = kind ∧ a.ad = t ∧ ((kyA a).2.2 : Int) = c ∧ (enK kyA nilA l e kind t c).2.1 = (tdK kyA (l.set k (nilA t)) (e + 1)).1 := by
  unfold enK at h ⊢
  split at h
  · cases h
  · rename_i k hk
    split at h
    · cases h
    · rename_i a ha
      split at h
      · rename_i hc
        rw [if_pos hc]
        exact ⟨k, a, ha, hc.1, hc.2.1, hc.2.2, rfl⟩
      · cases h
theorem enK_no {l : List Par} {e kind t c : Int} (h : (enK kyA nilA l e kind t c).1 = false) : (enK kyA nilA l e kind t c).2.1 = l := by
  unfold enK at h ⊢
  cases hk : fdK (l.map kyA) t with
  | zero => rfl
  | succ k =>
    rw [hk] at h
    simp only [] at h ⊢
    cases ha : l[k]? with
    | none => rfl
    | some a =>
      rw [ha] at h
      simp only [] at h ⊢
      split at h
      · cases h
      · rename_i hc; rw [if_neg hc]
/-- A part of memory that is right. -/
structure PaF (x : Par) : Prop where
  ad : 0 ≤ x.ad
  ln : x.ws.length ≤ 4096
  wd : ∀ v ∈ x.ws, I64 v
theorem enK_pa {l : List Par} (h : ∀ x ∈ l, PaF x) (e kind t c : Int) : ∀ x ∈ (enK kyA nilA l e kind t c).2.1, PaF x := by
  cases hb : (enK kyA nilA l e kind t c).1 with
  | false => rw [enK_no hb]; exact h
  | true =>
    obtain ⟨k, a, ha, _, hat, _, he⟩ := enK_ok hb
    intro x hx
    rcases enK_mem kyA nilA l e kind t c x hx with hx | hx
    · exact h x hx
    · rw [hx]
      have := (h a (List.mem_of_getElem? ha)).ad
      exact ⟨by show 0 ≤ t; omega, by simp [nilA], by simp [nilA]⟩
theorem enK_one {l : List Par} (e t c : Int) : sumH (enK kyA nilA l e 1 t c).2.1 = sumH l := by
  cases hb : (enK kyA nilA l e 1 t c).1 with
  | false => rw [enK_no hb]
  | true =>
    obtain ⟨k, a, ha, hk, _, _, he⟩ := enK_ok hb
    rw [he, sumH_td]
    have := sumH_set l k a (nilA t) ha
    simp [hA, hk, nilA] at this
    exact this
theorem enK_two {l : List Par} {e t c : Int} (hb : (enK kyA nilA l e 2 t c).1 = true) : (sumH (enK kyA nilA l e 2 t c).2.1 : Int) = sumH l - c ∧ ∃ a ∈ l, (a.ws.length : Int) = c := by
  obtain ⟨k, a, ha, hk, _, hc, he⟩ := enK_ok hb
  rw [he, sumH_td]
  have := sumH_set l k a (nilA t) ha
  simp [kyA, hk] at hc
  rw [show hA (nilA t) = 0 by simp [hA, nilA], show hA a = a.ws.length by simp [hA, hk]] at this
  exact ⟨by omega, a, List.mem_of_getElem? ha, hc⟩
/-- A run that a right program may come to. -/
structure Wf (p : List Fun) (s : St) : Prop where
  top : AtF p s.top
  low : ∀ c ∈ s.low, AtF p c
  ans : AnsL s.top s.low
  lo : s.low.length ≤ 999
  nx : 0 ≤ s.nx ∧ s.nx ≤ 65536 + ((s.st : Int) + 1) * 32776
  hp : 0 ≤ s.hp ∧ s.hp ≤ 8192
  en : 0 ≤ s.en ∧ s.en ≤ s.st
  ps : s.ps.length ≤ s.st + 1
  out : s.out.length ≤ s.st * 65
  hs : s.hp = sumH s.ps
  pa : ∀ x ∈ s.ps, PaF x
theorem ins_facts_at {p : List Fun} (hp : PrF p) {c : Cal} {f : Fun} {bl : Blk} {i : Ins} (hc : CalF p c f bl i) : FnF f ∧ InsF f.h i (fdF p i.nm) ∧ (endB i.op = true ↔ c.j + 1 = bl.l.length) ∧ bl.l.length ≤ 4096 ∧ c.j < bl.l.length ∧ f.h.bl = f.bs.length ∧ I64 i.n ∧ i ∈ bl.l := by
  obtain ⟨hF, hB, _⟩ := prog_fn hp.pr hc.hf
  obtain ⟨h1, h2⟩ := blk_facts (hB _ _ hc.hb)
  obtain ⟨h3, h4⟩ := h2 _ _ hc.hi
  exact ⟨hF, h3, h4, h1.2, (List.getElem?_eq_some_iff.1 hc.hi).1, hp.bl f (List.mem_of_getElem? hc.hf), hp.n64 f (List.mem_of_getElem? hc.hf) bl (List.mem_of_getElem? hc.hb) i (List.mem_of_getElem? hc.hi), List.mem_of_getElem? hc.hi⟩
/-- At a block's beginning. -/
theorem at_block {p : List Fun} (hp : PrF p) {c : Cal} {f : Fun} (hf : p[c.k]? = some f) (hb : c.b < f.bs.length) (hj : c.j = 0) (ln : c.rg.length = f.h.rg.toNat) (rg : ∀ v ∈ c.rg, I64 v) : AtF p c := by
  obtain ⟨_, hB, _⟩ := prog_fn hp.pr hf
  have hbl := List.getElem?_eq_getElem hb
  obtain ⟨h1, _⟩ := blk_facts (hB _ _ hbl)
  exact ⟨f, f.bs[c.b], f.bs[c.b].l[0]'(by omega), hf, hbl, by rw [hj]; exact List.getElem?_eq_getElem (by omega), ln, rg⟩
theorem at_next {p : List Fun} (hp : PrF p) {c : Cal} {f : Fun} {bl : Blk} {i : Ins} (hc : CalF p c f bl i) (he : endB i.op = false) : AtF p { c with j := c.j + 1 } := by
  obtain ⟨_, _, h3, _, h5, _⟩ := ins_facts_at hp hc
  have : ¬ c.j + 1 = bl.l.length := fun e => by rw [h3.2 e] at he; cases he
  exact ⟨f, bl, bl.l[c.j + 1]'(by omega), hc.hf, hc.hb, List.getElem?_eq_getElem (by show c.j + 1 < _; omega), hc.ln, hc.rg⟩
theorem setR_j (c : Cal) (d v : Int) : (setR c d v).k = c.k ∧ (setR c d v).b = c.b ∧ (setR c d v).j = c.j ∧ (setR c d v).an = c.an ∧ (setR c d v).rg.length = c.rg.length ∧ (setR c d v).fr = c.fr := by
  unfold setR
  split <;> simp
theorem at_setR {p : List Fun} {c : Cal} (h : AtF p c) (d : Int) {v : Int} (hv : I64 v) : AtF p (setR c d v) := by
  obtain ⟨f, bl, i, h1, h2, h3, h4, h5⟩ := h
  obtain ⟨e1, e2, e3, _, e5, _⟩ := setR_j c d v
  refine ⟨f, bl, i, by rw [e1]; exact h1, by rw [e2]; exact h2, by rw [e3]; exact h3, by rw [e5]; exact h4, fun u hu => ?_⟩
  unfold setR at hu
  split at hu
  · exact h5 u hu
  · rcases List.mem_or_eq_of_mem_set hu with h | h
    · exact h5 u h
    · rw [h]; exact hv
theorem ans_top {c c' : Cal} (e : c'.an = c.an) : ∀ {l : List Cal}, AnsL c l → AnsL c' l
  | [], _ => trivial
  | t :: r, h => by unfold AnsL at *; rw [e]; exact h
theorem getR_i64 {c : Cal} (h : ∀ v ∈ c.rg, I64 v) (a : Int) : I64 (getR c a) := by
  unfold getR
  split
  · exact i64_small _ (by omega) (by omega)
  · rw [List.getD_eq_getElem?_getD]
    cases hh : c.rg[a.toNat]? with
    | none => exact i64_small _ (by simp) (by simp)
    | some v => exact h v (List.mem_of_getElem? hh)
theorem endB_no {op : Int} (h : op < 8) : endB op = false := by
  unfold endB
  simp
  omega
/-- A step that changes the innermost call alone. -/
theorem wf_top {p : List Fun} {s : St} (h : Wf p s) {c : Cal} (hc : AtF p c) (e : c.an = s.top.an) : Wf p { s with top := c, st := s.st + 1 } :=
  ⟨hc, h.low, ans_top e h.ans, h.lo, ⟨h.nx.1, by have := h.nx.2; simp only []; omega⟩, h.hp, ⟨h.en.1, by have := h.en.2; simp only []; omega⟩, by have := h.ps; simp only []; omega, by have := h.out; simp only []; omega, h.hs, h.pa⟩
theorem itoa_le (v : Int) (h : I64 v) : (Lib.itoa v ++ ([10] : List UInt8)).length ≤ 65 := by
  have := itoa_len v h.1 h.2
  simp
  omega
/-- The number of the function that is called. -/
theorem callee_ok {p : List Fun} (hp : PrF p) {i : Ins} (hrt : rtA i.nm.data.toList = none) (hca : calB i.nm.data.toList i.gs.length (fdF p i.nm) = true) : ∃ f, p[ixOf p i.nm]? = some f ∧ FnF f ∧ i.gs.length ≤ rgOf p (ixOf p i.nm) ∧ rgOf p (ixOf p i.nm) = f.h.rg.toNat ∧ frOf p (ixOf p i.nm) ≤ 4096 := by
  unfold calB at hca
  rw [hrt] at hca
  unfold fdF at hca
  obtain ⟨f', hf'⟩ : ∃ f', fnOf p i.nm = some f' := by
    cases hf : fnOf p i.nm with
    | none => rw [hf] at hca; simp at hca
    | some f' => exact ⟨f', rfl⟩
  rw [hf'] at hca
  simp only [Option.map_some, decide_eq_true_eq] at hca
  obtain ⟨k, hk, hix, _⟩ := ixE_find i.nm f' p hf'
  have hixk : ixOf p i.nm = k := by unfold ixOf; rw [hix]; rfl
  obtain ⟨hF, _⟩ := prog_fn hp.pr hk
  obtain ⟨hm, hfr, hpa⟩ := rg_le hk hF
  refine ⟨f', by rw [hixk]; exact hk, hF, by rw [hixk]; omega, ?_, by rw [hixk]; exact hfr⟩
  rw [hixk]
  unfold rgOf
  rw [hk]
  rfl
/-- Does an instruction touch memory by an address? -/
def toB (i : Ins) : Bool := decide (i.op = 4) || (decide (i.op = 5) || (decide (i.op = 7) && decide (i.nm.data.toList = [114, 116, 46, 102, 114, 101, 101])))
theorem wf_step {p : List Fun} (hp : PrF p) {s s' : St} (h : Wf p s) {f : Fun} {bl : Blk} {i : Ins} (hc : CalF p s.top f bl i) (hd : depB s i = false) (hst : s.st ≤ 600000) (hs : stpS p { s with st := s.st + 1 } i = .inl s') : Wf p s' ∧ s'.st = s.st + 1 := by
  obtain ⟨hF, hI, hE, hl1, hl2, hbl, hn, _⟩ := ins_facts_at hp hc
  unfold stpS at hs
  dsimp only at hs
  have set1 : ∀ d v, endB i.op = false → I64 v → Wf p { s with top := setR { s.top with j := s.top.j + 1 } d v, st := s.st + 1 } := fun d v he hv => wf_top h (at_setR (at_next hp hc he) d hv) (by rw [(setR_j _ _ _).2.2.2.1])
  by_cases ho : i.op = 1
  · rw [if_pos ho] at hs; cases hs; exact ⟨set1 _ _ (endB_no (by omega)) hn, rfl⟩
  rw [if_neg ho] at hs
  by_cases ho : i.op = 2
  · rw [if_pos ho] at hs; cases hs; exact ⟨set1 _ _ (endB_no (by omega)) (getR_i64 hc.rg _), rfl⟩
  rw [if_neg ho] at hs
  by_cases ho : i.op = 3
  · rw [if_pos ho] at hs
    cases hs
    obtain ⟨fk, hB⟩ := bin_op i.nm (hI.nm ho) (getR s.top i.a) (getR s.top i.b) (getR_i64 hc.rg _)
    exact ⟨set1 _ _ (endB_no (by omega)) hB.rg, rfl⟩
  rw [if_neg ho] at hs
  by_cases ho : i.op = 4
  · rw [if_pos ho] at hs
    split at hs
    · rename_i k m hw
      cases hs
      refine ⟨set1 _ _ (endB_no (by omega)) ?_, rfl⟩
      unfold wdAt
      cases hk : s.ps[k]? with
      | none => exact i64_small _ (by simp) (by simp)
      | some x =>
        simp only [Option.bind_some]
        cases hm : x.ws[m]? with
        | none => exact i64_small _ (by simp) (by simp)
        | some v => exact (h.pa x (List.mem_of_getElem? hk)).wd v (List.mem_of_getElem? hm)
    · cases hs
  rw [if_neg ho] at hs
  by_cases ho : i.op = 5
  · rw [if_pos ho] at hs
    split at hs
    · rename_i k m hw
      cases hs
      have t := wf_top h (at_next hp hc (endB_no (op := i.op) (by omega))) rfl
      have hu : I64 (getR s.top i.b) := getR_i64 hc.rg _
      unfold wdSet
      cases hk : s.ps[k]? with
      | none => exact ⟨t, rfl⟩
      | some x =>
        have hx := h.pa x (List.mem_of_getElem? hk)
        refine ⟨⟨t.top, t.low, t.ans, t.lo, t.nx, t.hp, t.en, by simpa using t.ps, t.out, ?_, fun y hy => ?_⟩, rfl⟩
        · have := sumH_set s.ps k x { x with ws := x.ws.set m (getR s.top i.b) } hk
          simp only [hA, List.length_set] at this
          have h2 := h.hs
          simp only []
          show s.hp = (sumH (s.ps.set k { x with ws := x.ws.set m (getR s.top i.b) }) : Int)
          omega
        · rcases List.mem_or_eq_of_mem_set hy with hy | hy
          · exact h.pa y hy
          · rw [hy]
            refine ⟨hx.ad, by simpa using hx.ln, fun v hv => ?_⟩
            rcases List.mem_or_eq_of_mem_set hv with hv | hv
            · exact hx.wd v hv
            · rw [hv]; exact hu
    · cases hs
  rw [if_neg ho] at hs
  by_cases ho : i.op = 6
  · rw [if_pos ho] at hs; cases hs; exact ⟨set1 _ _ (endB_no (by omega)) (i64_wrap _), rfl⟩
  rw [if_neg ho] at hs
  by_cases ho : i.op = 7
  · rw [if_pos ho] at hs
    have hnx := at_next hp hc (endB_no (op := i.op) (by omega))
    unfold calS at hs
    simp only [] at hs
    split at hs
    · cases hs
      have t := set1 i.d 0 (endB_no (by omega)) (i64_small _ (by omega) (by omega))
      refine ⟨⟨t.top, t.low, t.ans, t.lo, t.nx, t.hp, t.en, t.ps, ?_, t.hs, t.pa⟩, rfl⟩
      have hv : I64 ((i.gs.map (getR { s.top with j := s.top.j + 1 })).getD 0 0) := by
        rw [List.getD_eq_getElem?_getD, List.getElem?_map]
        cases i.gs[0]? with
        | none => exact i64_small _ (by simp) (by simp)
        | some a => exact getR_i64 (c := { s.top with j := s.top.j + 1 }) hc.rg a
      have := itoa_le _ hv
      have := h.out
      simp only [List.length_append] at *
      omega
    split at hs
    · cases hs
      have t := set1 i.d (match s.inp with | [] => -1 | b :: _ => (b.toNat : Int)) (endB_no (by omega)) (by
        cases s.inp with
        | nil => exact i64_small _ (by simp) (by simp)
        | cons b l => have := UInt8.toNat_lt b; exact i64_small _ (by simp only []; omega) (by simp only []; omega))
      exact ⟨⟨t.top, t.low, t.ans, t.lo, t.nx, t.hp, t.en, t.ps, t.out, t.hs, t.pa⟩, rfl⟩
    split at hs
    · split at hs
      · cases hs
      · rename_i hv
        cases hs
        have n1 := h.nx.1
        have n2 := h.nx.2
        have n3 := h.hp
        have n4 := h.ps
        have t := wf_top h (at_setR hnx i.d (v := s.nx) ⟨by omega, by omega⟩) (by rw [(setR_j _ _ _).2.2.2.1])
        refine ⟨⟨t.top, t.low, t.ans, t.lo, ⟨?_, ?_⟩, ⟨?_, ?_⟩, t.en, ?_, t.out, ?_, ?_⟩, rfl⟩
        · simp only []; omega
        · simp only []; omega
        · simp only []; omega
        · simp only []; omega
        · simp only [List.length_append, List.length_singleton]; omega
        · have := h.hs
          simp only [sumH, List.map_append, List.sum_append, List.map_cons, List.map_nil, List.sum_cons, List.sum_nil, hA, if_true, List.length_replicate]
          unfold sumH at this
          omega
        · intro x hx
          rcases List.mem_append.1 hx with hx | hx
          · exact h.pa x hx
          · simp only [List.mem_singleton] at hx
            subst hx
            refine ⟨n1, ?_, fun v hv => ?_⟩
            · simp only [List.length_replicate]; omega
            · rw [(List.mem_replicate.1 hv).2]; exact i64_small _ (by omega) (by omega)
    split at hs
    · split at hs
      · rename_i hok
        cases hs
        have t := wf_top h (at_setR hnx i.d (v := 0) (i64_small _ (by omega) (by omega))) (by rw [(setR_j _ _ _).2.2.2.1])
        have n3 := h.en
        have n4 := h.ps
        have n5 := h.hp
        unfold endS at hok ⊢
        simp only [] at hok ⊢
        obtain ⟨k3, a, ha, k4⟩ := enK_two hok
        have k5 := h.hs
        refine ⟨⟨t.top, t.low, t.ans, t.lo, t.nx, ⟨?_, ?_⟩, ⟨(enK_en kyA nilA s.ps s.en 2 _ _ n3.1).1, ?_⟩, ?_, t.out, ?_, enK_pa h.pa _ _ _ _⟩, trivial⟩
        · simp only []; omega
        · simp only []; omega
        · exact Int.le_trans (enK_en kyA nilA s.ps s.en 2 _ _ n3.1).2 (by simp only []; omega)
        · exact Nat.le_trans (enK_len kyA nilA s.ps s.en 2 _ _) (by simp only []; omega)
        · simp only []; omega
      · cases hs
    rename_i q1 q2 q3 q4
    cases hs
    have hrt : rtA i.nm.data.toList = none := by
      unfold rtA
      rw [if_neg q2, if_neg q1, if_neg q3, if_neg q4]
    obtain ⟨f', hk, hF', hle, hrg, hfr⟩ := callee_ok hp hrt (hI.ca ho)
    have hvl : (i.gs.map (getR { s.top with j := s.top.j + 1 })).length = i.gs.length := List.length_map ..
    unfold entS
    simp only [hvl]
    have n1 := h.nx.1
    have n2 := h.nx.2
    have n3 := h.en
    have n4 := h.ps
    have n5 := h.out
    refine ⟨⟨?_, ?_, ⟨?_, ?_⟩, ?_, ⟨?_, ?_⟩, h.hp, ⟨?_, ?_⟩, ?_, ?_, ?_, ?_⟩, trivial⟩
    · have hb : f'.h.bl = f'.bs.length := hp.bl f' (List.mem_of_getElem? hk)
      have := hF'.bl
      refine at_block hp (c := ⟨ixOf p i.nm, _, s.nx, 0, 0, i.d⟩) hk (by show 0 < _; omega) rfl ?_ ?_
      · simp only [List.length_append, hvl, List.length_replicate]; omega
      · intro v hv
        rcases List.mem_append.1 hv with hv | hv
        · obtain ⟨y, _, rfl⟩ := List.mem_map.1 hv
          exact getR_i64 (c := { s.top with j := s.top.j + 1 }) hc.rg y
        · rw [(List.mem_replicate.1 hv).2]
          exact i64_small _ (by omega) (by omega)
    · intro c hc'
      rcases List.mem_cons.1 hc' with rfl | hc'
      · exact hnx
      · exact h.low c hc'
    · rcases hI.dc ho with hd | hd
      · exact .inl hd
      · refine .inr ⟨hd.1, ?_⟩
        have := hc.ln
        simp only []
        omega
    · exact ans_top (c := s.top) (c' := { s.top with j := s.top.j + 1 }) rfl h.ans
    · unfold depB at hd
      rw [hrt] at hd
      simp [ho] at hd
      simp only [List.length_cons]
      omega
    · simp only []; omega
    · simp only []; omega
    · simp only []; omega
    · simp only []; omega
    · simp only [List.length_append, List.length_singleton]; omega
    · simp only []; omega
    · have := h.hs
      simp only [sumH, List.map_append, List.sum_append, List.map_cons, List.map_nil, List.sum_cons, List.sum_nil, hA]
      simp
      exact this
    · intro x hx
      rcases List.mem_append.1 hx with hx | hx
      · exact h.pa x hx
      · simp only [List.mem_singleton] at hx
        subst hx
        refine ⟨n1, ?_, fun v hv => ?_⟩
        · simp only [List.length_replicate]; exact hfr
        · rw [(List.mem_replicate.1 hv).2]; exact i64_small _ (by omega) (by omega)
  rw [if_neg ho] at hs
  by_cases ho : i.op = 8
  · rw [if_pos ho] at hs
    cases hs
    have ht := hI.to (.inl ho)
    exact ⟨wf_top h (at_block hp (c := { s.top with b := i.to.toNat, j := 0 }) hc.hf (by show i.to.toNat < _; omega) rfl hc.ln hc.rg) rfl, rfl⟩
  rw [if_neg ho] at hs
  by_cases ho : i.op = 9
  · rw [if_pos ho] at hs
    cases hs
    have ht := hI.to (.inr ho)
    have he := hI.el ho
    refine ⟨wf_top h (at_block hp (c := { s.top with b := _, j := 0 }) hc.hf ?_ rfl hc.ln hc.rg) rfl, rfl⟩
    show Int.toNat _ < _
    split <;> omega
  rw [if_neg ho] at hs
  by_cases ho : i.op = 10
  · rw [if_pos ho] at hs
    unfold bakS at hs
    simp only [] at hs
    cases hlow : s.low with
    | nil => rw [hlow] at hs; cases hs
    | cons t l =>
      rw [hlow] at hs
      cases hs
      have n1 := h.nx
      have n3 := h.en
      have n4 := h.ps
      have n5 := h.out
      have n6 := h.lo
      rw [hlow] at n6
      have ha := h.ans
      rw [hlow] at ha
      have k1 := enK_len kyA nilA s.ps s.en 1 s.top.fr ((frOf p s.top.k : Nat) : Int)
      have k2 := enK_en kyA nilA s.ps s.en 1 s.top.fr ((frOf p s.top.k : Nat) : Int) n3.1
      refine ⟨⟨at_setR (h.low t (by rw [hlow]; simp)) _ (getR_i64 (c := { s.top with j := s.top.j + 1 }) hc.rg _), fun c hc' => h.low c (by rw [hlow]; simp [hc']), ans_top (setR_j _ _ _).2.2.2.1 ha.2, ?_, ⟨n1.1, ?_⟩, h.hp, ⟨k2.1, ?_⟩, ?_, ?_, ?_, enK_pa h.pa _ _ _ _⟩, rfl⟩
      · simp only [List.length_cons] at n6; simp only []; omega
      · simp only [endS]; omega
      · simp only [endS]; omega
      · simp only [endS]; omega
      · simp only [endS]; omega
      · simp only [endS]; rw [enK_one]; exact h.hs
  rw [if_neg ho] at hs
  cases hs
end
end Go.Proofs.YtdppoblbenbafaaGreatDoor
