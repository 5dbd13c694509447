/- A frame or a block ends: it is there. A run's little functions, at whatever run. A call comes back, in whatever run. A run, plainly: no addresses. -/
import Derived.Test.YtdppoblbenbafaaGreatDoorYAN
import Derived.Test.YtdppoblbenbafaaGreatDoorYAD
import Derived.Test.YtdppoblbenbafaaGreatDoorYAL
import Derived.Test.YtdppoblbenbafaaGreatDoorYAM
namespace Go.Proofs.YtdppoblbenbafaaGreatDoor
section
open Go.RowKit Go.Shelf
set_option maxRecDepth 20000
set_option maxHeartbeats 2000000
theorem Prt.put {W : World} {P : Nat} {l : List Pt} {len k : Nat} (h : Prt W P l len) (q : Pt) (hk : k < l.length) : Prt (((W.setCell ⟨P, k * 3, none⟩ (.int .i64 q.kd)).setCell ⟨P, k * 3 + 1, none⟩ (.int .i64 q.at_)).setCell ⟨P, k * 3 + 2, none⟩ (.slice q.wa q.wn q.wc)) P (l.set k q) len := by
  obtain ⟨cs, hb, hl, ht, hle⟩ := h.out
  obtain ⟨s0, s1, s2, s3⟩ := set3 cs k (.int .i64 q.kd) (.int .i64 q.at_) (.slice q.wa q.wn q.wc) (by omega)
  refine ⟨_, ((hb.set (k * 3) _).set (k * 3 + 1) _).set (k * 3 + 2) _, by simpa using hl, ?_, by simpa using hle⟩
  refine fl_take (l.set k q) _ (fun j p hj => ?_)
  by_cases e : k = j
  · subst e
    rw [List.getElem?_set_self hk] at hj
    cases hj
    exact ⟨s1, s2, s3⟩
  · rw [List.getElem?_set_ne e] at hj
    have hjl := (List.getElem?_eq_some_iff.1 hj).1
    obtain ⟨a, b, c⟩ := flP_at l j p hj
    have key : ∀ t v, t < l.length * 3 → (t < k * 3 ∨ k * 3 + 2 < t) → (flP l)[t]? = some v → (((cs.set (k * 3) (.int .i64 q.kd)).set (k * 3 + 1) (.int .i64 q.at_)).set (k * 3 + 2) (.slice q.wa q.wn q.wc))[t]? = some v := fun t v htl hto hv => by
      rw [s0 t hto]
      rw [← ht, List.getElem?_take, if_pos htl] at hv
      exact hv
    exact ⟨key _ _ (by omega) (by omega) a, key _ _ (by omega) (by omega) b, key _ _ (by omega) (by omega) c⟩
/-- What is left of parts, and how many of them have ended, once one more has. -/
def tdP (l : List Pt) (e : Int) : List Pt × Int := if 2 * e < l.length then (l, e) else (liveP l, 0)
theorem tidy_any (R P pa len : Nat) (r : Rs) (l : List Pt) (w : World) (hR : Rb w R r) (hP : Prt w P l len) (hpv : r.pv = .slice (some ⟨P, 0, none⟩) l.length pa) (hpa : l.length ≤ pa) (e0 : 0 ≤ r.en) (e1 : r.en ≤ 1000000) (hn : l.length ≤ 1000000) : Calls Tryz.prog 155 #[.pointer (some ⟨R, 4, none⟩)] w fun e w' => e = .returned (.tuple #[]) ∧ Onl (fun b => b = R ∨ b = P) w w' ∧ Rb w' R { r with pv := .slice (some ⟨P, 0, none⟩) (tdP l r.en).1.length pa, en := (tdP l r.en).2 } ∧ Prt w' P (tdP l r.en).1 len := by
  by_cases h : 2 * r.en < l.length
  · refine (tidy_no R P pa r l w hR hpv e0 e1 h).mono ?_
    rintro e w' ⟨rfl, k, rfl⟩
    have hb : Below w.heap.size w (w.drewN k) := below_drewN (Below.refl _ _) k
    unfold tdP
    rw [if_pos h]
    exact ⟨rfl, Onl.of_below hb, by rw [← hpv]; exact hR.drewN k, hP.below hb⟩
  · refine (tidy_yes R P pa len r l w hR hP hpv hpa e0 e1 hn h).mono ?_
    unfold tdP
    rw [if_neg h]
    exact fun e w' hh => hh
theorem end_yes (R P pa len k : Nat) (kind t c : Int) (l : List Pt) (p : Pt) (r : Rs) (w : World) (hR : Rb w R r) (hP : Prt w P l len) (hpv : r.pv = .slice (some ⟨P, 0, none⟩) l.length pa) (hpa : l.length ≤ pa) (e0 : 0 ≤ r.en) (e1 : r.en ≤ 900000) (hn : l.length ≤ 1000000) (hf : fdP l t = k + 1) (hk : l[k]? = some p) (h1 : p.kd = kind) (h2 : p.at_ = t) (h3 : (p.wn : Int) = c) : Calls Tryz.prog 137 #[.pointer (some ⟨R, 4, none⟩), .int .i64 kind, .int .i64 t, .int .i64 c] w fun e w' => e = .returned (.bool true) ∧ Onl (fun b => b = R ∨ b = P) w w' ∧ Rb w' R { r with pv := .slice (some ⟨P, 0, none⟩) (tdP (l.set k ⟨0, t, none, 0, 0⟩) (r.en + 1)).1.length pa, en := (tdP (l.set k ⟨0, t, none, 0, 0⟩) (r.en + 1)).2 } ∧ Prt w' P (tdP (l.set k ⟨0, t, none, 0, 0⟩) (r.en + 1)).1 len := by
  have hF := find_any R P pa len t l r w hR hP hpv hn
  rw [hf] at hF
  have HF : Hid (Calls Tryz.prog 153 #[.pointer (some ⟨R, 4, none⟩), .int .i64 t] w fun e w' => e = .returned (.int .i64 (k : Int)) ∧ Below w.heap.size w w') := by
    have e : (((k + 1 : Nat) : Int) - 1) = k := by omega
    rw [e] at hF
    exact hF
  have hkl := (List.getElem?_eq_some_iff.1 hk).1
  have HR : Hid (Rb w R r) := hR
  have HP : Hid (Prt w P l len) := hP
  have HV : Hid (r.pv = .slice (some ⟨P, 0, none⟩) l.length pa) := hpv
  have HK : Hid (l[k]? = some p) := hk
  have hk' : (k : Int) < l.length := by omega
  have q1 : IntKind.i64.wrap (r.en + 1) = r.en + 1 := wrapI _ (by omega) (by omega)
  have HNE : Hid (R ≠ P) := hP.ne hR
  have n0 : ¬ R = P := hP.ne hR
  have n1 : ¬ P = R := fun e => hP.ne hR e.symm
  have HT : Hid (∀ W, Rb W R { r with en := r.en + 1 } → Prt W P (l.set k ⟨0, t, none, 0, 0⟩) len → Calls Tryz.prog 155 #[.pointer (some ⟨R, 4, none⟩)] W fun e w' => e = .returned (.tuple #[]) ∧ Onl (fun b => b = R ∨ b = P) W w' ∧ Rb w' R { r with pv := .slice (some ⟨P, 0, none⟩) (tdP (l.set k ⟨0, t, none, 0, 0⟩) (r.en + 1)).1.length pa, en := (tdP (l.set k ⟨0, t, none, 0, 0⟩) (r.en + 1)).2 } ∧ Prt w' P (tdP (l.set k ⟨0, t, none, 0, 0⟩) (r.en + 1)).1 len) := fun W a b => tidy_any R P pa len { r with en := r.en + 1 } _ W a b (by rw [List.length_set]; exact hpv) (by simpa using hpa) (by show 0 ≤ r.en + 1; omega) (by show r.en + 1 ≤ 1000000; omega) (by simpa using hn)
  generalize tdP (l.set k ⟨0, t, none, 0, 0⟩) (r.en + 1) = td at *
  clear hF hR hP hpv hn hf hk hpa e0 e1
  subst h1 h2 h3
  go_enter Tryz.func137, Tryz.ntmps137
  go_wp2_with fail
  refine HF.out.mono ?_
  rintro e w1 ⟨rfl, hb⟩
  have HB : Hid (Below w.heap.size w w1) := hb
  have hP1 := HP.out.below hb
  have hR1 := HR.out.below hb
  obtain ⟨p0, p1, p2⟩ := hP1.pta k p HK.out
  have q0 := acell hP1.lt p0
  have q1' := acell hP1.lt p1
  have q2 := acell hP1.lt p2
  have r4 := hR1.cell (j := 4) (v := .slice (some ⟨P, 0, none⟩) l.length pa) (by rw [← HV.out]; rfl)
  have r5 := hR1.cell (j := 5) rfl
  have s4 := acell hR1.lt r4
  have s5 := acell hR1.lt r5
  have y5 := (hR1.alloc (.cells #[.int .i64 p.kd, .int .i64 p.at_, .slice p.wa p.wn p.wc] 174)).fz 5
  obtain ⟨cs, hcb, _⟩ := (hP1.below ((Below.refl _ w1).alloc (Nat.le_refl _) (.cells #[.int .i64 p.kd, .int .i64 p.at_, .slice p.wa p.wn p.wc] 174))).out
  have y0 := hcb.fz (k * 3)
  have y1 := hcb.fz (k * 3 + 1)
  have y2 := hcb.fz (k * 3 + 2)
  have HP2 : Hid (Prt (w1.alloc (.cells #[.int .i64 p.kd, .int .i64 p.at_, .slice p.wa p.wn p.wc] 174)) P l len) := hP1.below ((Below.refl _ w1).alloc (Nat.le_refl _) _)
  have HR2 : Hid (Rb (w1.alloc (.cells #[.int .i64 p.kd, .int .i64 p.at_, .slice p.wa p.wn p.wc] 174)) R r) := hR1.alloc _
  have HKl : Hid (k < l.length) := hkl
  clear hb hP1 hR1 hcb hkl
  generalize hll : l.length = n at *
  go_wp2_with fail
  refine (HT.out _ ((((HR2.out.other n0).other n0).other n0).set 5 _) ?_).mono ?_
  · exact (HP2.out.put ⟨0, p.at_, none, 0, 0⟩ (by rw [hll]; exact HKl.out)).keep ((grown_set _ R 5 _).block P (by simp; have := HP2.out.lt; simpa using this) (fun e => n1 (by cases e; rfl)))
  rintro e w2 ⟨rfl, ho, hr, hp⟩
  have HO : Hid (Onl (fun b => b = R ∨ b = P) w w2) := (((((Onl.of_below HB.out).alloc _).set (S := fun b => b = R ∨ b = P) (b := P) (.inr rfl)).set (S := fun b => b = R ∨ b = P) (b := P) (.inr rfl)).set (S := fun b => b = R ∨ b = P) (b := P) (.inr rfl) |>.set (S := fun b => b = R ∨ b = P) (b := R) (.inl rfl)).trans ho
  have HZ : Hid (Rb w2 R { r with pv := .slice (some ⟨P, 0, none⟩) td.1.length pa, en := td.2 } ∧ Prt w2 P td.1 len) := ⟨hr, hp⟩
  clear ho hr hp
  go_wp2
  go_ret
  exact ⟨rfl, HO.out, HZ.out.1, HZ.out.2⟩
end
section
open Go.RowKit Go.Shelf
set_option maxHeartbeats 2000000
theorem innermost41g (R C ca n : Nat) (w : World) (h3 : w.cell? ⟨R, 3, none⟩ = some (.slice (some ⟨C, 0, none⟩) (n + 1) ca)) (hn : n < 1000000) : Calls Tryz.prog 98 #[.pointer (some ⟨R, 0, none⟩)] w fun e w' => e = .returned (.pointer (some ⟨C, n * 7, none⟩)) ∧ ∃ k, w' = w.drewN k := by
  have e1 : IntKind.i64.wrap ((n : Int) + 1 - 1) = n := by rw [wrapI _ (by omega) (by omega)]; omega
  go_enter Tryz.func98, Tryz.ntmps98
  go_wp2
  go_quiet (fail)
  go_wp2
  go_ret
  exact ⟨rfl, _, rfl⟩
theorem instruction19g (R C ca n g1 o1 bl bc g2 o2 il ic b j : Nat) (w : World) (h3 : w.cell? ⟨R, 3, none⟩ = some (.slice (some ⟨C, 0, none⟩) (n + 1) ca)) (hn : n < 1000000) (c0 : w.cell? ⟨C, n * 7, none⟩ = some (.slice (some ⟨g1, o1, none⟩) bl bc)) (c4 : w.cell? ⟨C, n * 7 + 4, none⟩ = some (.int .i64 b)) (c5 : w.cell? ⟨C, n * 7 + 5, none⟩ = some (.int .i64 j)) (hb : b < bl) (hj : j < il) (y0 : w.cell? ⟨g1, o1 + b, none⟩ = some (.slice (some ⟨g2, o2, none⟩) il ic)) : Calls Tryz.prog 69 #[.pointer (some ⟨R, 0, none⟩)] w fun e w' => e = .returned (.pointer (some ⟨g2, o2 + j * 9, none⟩)) ∧ ∃ k, w' = w.drewN k := by
  have hI : Hid (Calls Tryz.prog 98 #[.pointer (some ⟨R, 0, none⟩)] w fun e w' => e = .returned (.pointer (some ⟨C, n * 7, none⟩)) ∧ ∃ k, w' = w.drewN k) := innermost41g R C ca n w h3 hn
  have c0' := dcell c0
  have c4' := dcell c4
  have c5' := dcell c5
  have y0' := dcell y0
  clear c0 c4 c5 y0 h3
  go_enter Tryz.func69, Tryz.ntmps69
  go_wp2_with (first | (go_at_call 98; refine hI.out.mono ?_; rintro e w1 ⟨rfl, n1, rfl⟩))
  go_quiet (fail)
  go_wp2
  go_ret
  exact ⟨rfl, _, World.drewN_drewN _ _ _⟩
theorem value46g (C o q m rc : Nat) (r : Nat) (v : Int) (w : World) (c1 : w.cell? ⟨C, o + 1, none⟩ = some (.slice (some ⟨q, 0, none⟩) m rc)) (hr : r < m) (hv : w.cell? ⟨q, r, none⟩ = some (.int .i64 v)) : Calls Tryz.prog 103 #[.pointer (some ⟨C, o, none⟩), .int .i64 r] w fun e w' => e = .returned (.int .i64 v) ∧ w' = w := by
  have hn : ¬ ((r : Int) = -1) := by omega
  go_enter Tryz.func103, Tryz.ntmps103
  go_wp2
  go_ret
  exact ⟨rfl, rfl⟩
theorem answer53g (R C ca n q m rc : Nat) (d : Nat) (v u : Int) (w : World) (h3 : w.cell? ⟨R, 3, none⟩ = some (.slice (some ⟨C, 0, none⟩) (n + 1) ca)) (hn : n < 1000000) (c1 : w.cell? ⟨C, n * 7 + 1, none⟩ = some (.slice (some ⟨q, 0, none⟩) m rc)) (hr : d < m) (hv : w.cell? ⟨q, d, none⟩ = some (.int .i64 u)) (hz : w.frozen? ⟨q, d, none⟩ = false) : Calls Tryz.prog 132 #[.pointer (some ⟨R, 0, none⟩), .int .i64 d, .int .i64 v] w fun e w' => e = .returned (.tuple #[]) ∧ ∃ k, w' = (w.drewN k).setCell ⟨q, d, none⟩ (.int .i64 v) := by
  have hI : Hid (Calls Tryz.prog 98 #[.pointer (some ⟨R, 0, none⟩)] w fun e w' => e = .returned (.pointer (some ⟨C, n * 7, none⟩)) ∧ ∃ k, w' = w.drewN k) := innermost41g R C ca n w h3 hn
  have hn' : ¬ ((d : Int) = -1) := by omega
  have c1' := dcell c1
  have hv' := dcell hv
  have hz' : ∀ k, (w.drewN k).frozen? ⟨q, d, none⟩ = false := fun _ => hz
  clear h3 c1 hv hz
  go_enter Tryz.func132, Tryz.ntmps132
  go_wp2_with (first | (go_at_call 98; refine hI.out.mono ?_; rintro e w1 ⟨rfl, n1, rfl⟩))
  go_returns
  exact ⟨rfl, _, rfl⟩
end
section
open Go.RowKit Go.Shelf
set_option maxRecDepth 20000
set_option maxHeartbeats 2000000
/-- What is left of parts where one is to end: whether it was there, the parts, how many of them have ended. -/
def enP (l : List Pt) (e kind t c : Int) : Bool × List Pt × Int := match fdP l t with
  | 0 => (false, l, e)
  | k + 1 => match l[k]? with
    | some p => if p.kd = kind ∧ p.at_ = t ∧ (p.wn : Int) = c then (true, tdP (l.set k ⟨0, t, none, 0, 0⟩) (e + 1)) else (false, l, e)
    | none => (false, l, e)
theorem end_any (R P pa len : Nat) (kind t c : Int) (l : List Pt) (r : Rs) (w : World) (hR : Rb w R r) (hP : Prt w P l len) (hpv : r.pv = .slice (some ⟨P, 0, none⟩) l.length pa) (hpa : l.length ≤ pa) (e0 : 0 ≤ r.en) (e1 : r.en ≤ 900000) (hn : l.length ≤ 1000000) : Calls Tryz.prog 137 #[.pointer (some ⟨R, 4, none⟩), .int .i64 kind, .int .i64 t, .int .i64 c] w fun e w' => e = .returned (.bool (enP l r.en kind t c).1) ∧ Onl (fun b => b = R ∨ b = P) w w' ∧ Rb w' R { r with pv := .slice (some ⟨P, 0, none⟩) (enP l r.en kind t c).2.1.length pa, en := (enP l r.en kind t c).2.2 } ∧ Prt w' P (enP l r.en kind t c).2.1 len := by
  have keep : ∀ W', Below w.heap.size w W' → Onl (fun b => b = R ∨ b = P) w W' ∧ Rb W' R { r with pv := .slice (some ⟨P, 0, none⟩) l.length pa, en := r.en } ∧ Prt W' P l len := fun W' hb => ⟨Onl.of_below hb, by rw [← hpv]; exact hR.below hb, hP.below hb⟩
  cases hf : fdP l t with
  | zero =>
    refine (end_none R P pa len kind t c l r w hR hP hpv hn hf).mono ?_
    rintro e w' ⟨rfl, hb⟩
    simp only [enP, hf]
    exact ⟨trivial, keep w' hb⟩
  | succ k =>
    have hle := (bsF_le (fun k => decide (t < atF l k)) 0 l.length (Nat.zero_le _)).2
    have hkl : k < l.length := by unfold fdP at hf; omega
    have hk : l[k]? = some l[k] := List.getElem?_eq_getElem hkl
    by_cases hd : l[k].kd = kind ∧ l[k].at_ = t ∧ (l[k].wn : Int) = c
    · refine (end_yes R P pa len k kind t c l l[k] r w hR hP hpv hpa e0 e1 hn hf hk hd.1 hd.2.1 hd.2.2).mono ?_
      simp only [enP, hf, hk, if_pos hd]
      exact fun e w' hh => hh
    · refine (end_diff R P pa len k kind t c l l[k] r w hR hP hpv hn hf hk hd).mono ?_
      rintro e w' ⟨rfl, hb⟩
      simp only [enP, hf, hk, if_neg hd]
      exact ⟨trivial, keep w' hb⟩
theorem back_last (R P pa len C ca n : Nat)  (fr wd v ans b0 j0 : Int) (ba qa : Option Addr) (bl bc qn qc : Nat) (l : List Pt) (r : Rs) (w : World) (hR : Rb w R r) (hP : Prt w P l len) (hC : ∃ cs, Bk w C 138 cs) (hpv : r.pv = .slice (some ⟨P, 0, none⟩) l.length pa) (hcv : r.cv = .slice (some ⟨C, 0, none⟩) (n + 1) ca) (hpa : l.length ≤ pa) (e0 : 0 ≤ r.en) (e1 : r.en ≤ 900000) (hn : l.length ≤ 1000000) (hnn : n < 1000000) (hca : n + 1 ≤ ca) (c0 : w.cell? ⟨C, n * 7, none⟩ = some (.slice ba bl bc)) (c1 : w.cell? ⟨C, n * 7 + 1, none⟩ = some (.slice qa qn qc)) (c2 : w.cell? ⟨C, n * 7 + 2, none⟩ = some (.int .i64 fr)) (c3 : w.cell? ⟨C, n * 7 + 3, none⟩ = some (.int .i64 wd)) (c4 : w.cell? ⟨C, n * 7 + 4, none⟩ = some (.int .i64 b0)) (c5 : w.cell? ⟨C, n * 7 + 5, none⟩ = some (.int .i64 j0)) (c6 : w.cell? ⟨C, n * 7 + 6, none⟩ = some (.int .i64 ans)) (w0 : -9223372036854775808 ≤ wd) (w1' : wd ≤ 9223372036854775807) (hz : n = 0) : Calls Tryz.prog 102 #[.pointer (some ⟨R, 0, none⟩), .int .i64 v] w fun e w' => e = .returned (.tuple #[]) ∧ Onl (fun b => b = R ∨ b = P) w w' ∧ Rb w' R { r with pv := .slice (some ⟨P, 0, none⟩) (enP l r.en 1 fr wd).2.1.length pa, en := (enP l r.en 1 fr wd).2.2, cv := .slice (some ⟨C, 0, none⟩) 0 ca, fin := 1, cd := 0 } ∧ Prt w' P (enP l r.en 1 fr wd).2.1 len := by
  have hI : Hid (Calls Tryz.prog 98 #[.pointer (some ⟨R, 0, none⟩)] w fun e w' => e = .returned (.pointer (some ⟨C, n * 7, none⟩)) ∧ ∃ k, w' = w.drewN k) := innermost41g R C ca n w (hcv ▸ hR.cell (j := 3) rfl) hnn
  have HE : Hid (∀ W, Below w.heap.size w W → Calls Tryz.prog 137 #[.pointer (some ⟨R, 4, none⟩), .int .i64 1, .int .i64 fr, .int .i64 wd] W fun e w' => e = .returned (.bool (enP l r.en 1 fr wd).1) ∧ Onl (fun b => b = R ∨ b = P) W w' ∧ Rb w' R { r with pv := .slice (some ⟨P, 0, none⟩) (enP l r.en 1 fr wd).2.1.length pa, en := (enP l r.en 1 fr wd).2.2 } ∧ Prt w' P (enP l r.en 1 fr wd).2.1 len) := fun W hW => (end_any R P pa len 1 fr wd l r W (hR.below hW) (hP.below hW) hpv hpa e0 e1 hn).mono fun e w' hh => hh
  have HCB : Hid (∃ cs, Bk w C 138 cs ∧ C ≠ R ∧ C ≠ P) := by
    obtain ⟨cs, hc⟩ := hC
    obtain ⟨ps, hp, _⟩ := hP.out
    exact ⟨cs, hc, hc.ne hR (by decide), hc.ne hp (by decide)⟩
  have HV : Hid (r.cv = .slice (some ⟨C, 0, none⟩) (n + 1) ca) := hcv
  have ew : IntKind.i64.wrap wd = wd := wrapI _ w0 w1'
  have hn1 : IntKind.i64.wrap ((n : Int) + 1 - 1) = n := by rw [wrapI _ (by omega) (by omega)]; omega
  have hn2 : IntKind.i64.wrap (n : Int) = n := wrapI _ (by omega) (by omega)
  have hn3 : wrap64 (n : Int) = n := by unfold wrap64; omega
  have hnc : (n : Int) ≤ ca := by omega
  have hz' : ((n : Int) == 0) = true := by subst hz; rfl
  have HZ0 : Hid (n = 0) := hz
  clear hz
  generalize enP l r.en 1 fr wd = td at *
  have c0' := dcell c0
  have c1' := dcell c1
  have c2' := dcell c2
  have c3' := dcell c3
  have c4' := dcell c4
  have c5' := dcell c5
  have c6' := dcell c6
  have HRl : Hid (R < w.heap.size ∧ P < w.heap.size) := ⟨hR.lt, hP.lt⟩
  clear hC hR hP hpv hcv hpa e0 e1 hn hnn hca c0 c1 c2 c3 c4 c5 c6 w0 w1'
  go_enter Tryz.func102, Tryz.ntmps102
  go_wp2_with fail
  refine hI.out.mono ?_
  rintro e w1 ⟨rfl, n1, hw1⟩
  have HB1 : Hid (Below w.heap.size w w1) := by show Below _ _ _; rw [hw1]; exact below_drewN (Below.refl _ _) n1
  have k0 := c0' n1
  have k1 := c1' n1
  have k2 := c2' n1
  have k3 := c3' n1
  have k4 := c4' n1
  have k5 := c5' n1
  have k6 := c6' n1
  rw [← hw1] at k0 k1 k2 k3 k4 k5 k6
  clear hw1 c0' c1' c2' c3' c4' c5' c6'
  go_wp2
  go_region_with (first | (go_at_call 137; refine (HE.out _ (by first | exact (HB1.out.alloc HB1.out.size _).drew | exact (HB1.out.alloc HB1.out.size _))).mono ?_; rintro e w2 ⟨rfl, ho, hr, hp⟩; have HO : Hid (Onl (fun b => b = R ∨ b = P) w w2) := (Onl.of_below (by first | exact (HB1.out.alloc HB1.out.size _).drew | exact (HB1.out.alloc HB1.out.size _))).trans ho; have HX : Hid (Bk w2 w1.heap.size 138 [.slice ba bl bc, .slice qa qn qc, .int .i64 fr, .int .i64 wd, .int .i64 b0, .int .i64 j0, .int .i64 ans]) := (by have hs := HB1.out.size; have hl := HRl.out; first | exact Bk.onl (Bk.new w1 [.slice ba bl bc, .slice qa qn qc, .int .i64 fr, .int .i64 wd, .int .i64 b0, .int .i64 j0, .int .i64 ans] 138) ho (by omega) | exact Bk.onl (Bk.new w1 [.slice ba bl bc, .slice qa qn qc, .int .i64 fr, .int .i64 wd, .int .i64 b0, .int .i64 j0, .int .i64 ans] 138).drew ho (by omega)); have HR2 : Hid (Rb w2 R { r with pv := .slice (some ⟨P, 0, none⟩) td.2.1.length pa, en := td.2.2 }) := hr; have HP2 : Hid (Prt w2 P td.2.1 len) := hp; clear ho hr hp))
  all_goals (
    have r3 := HR2.out.cell (j := 3) (v := .slice (some ⟨C, 0, none⟩) (n + 1) ca) (by rw [← HV.out]; rfl)
    have z3 := HR2.out.fz 3
    go_wp2
    go_region
    have HR3 : Hid (Rb ((w2.setCell ⟨R, 3, none⟩ (.slice (some ⟨C, 0, none⟩) n ca)).drew) R { r with pv := .slice (some ⟨P, 0, none⟩) td.2.1.length pa, en := td.2.2, cv := .slice (some ⟨C, 0, none⟩) n ca }) := (HR2.out.set 3 _).drew
    have HO3 : Hid (Onl (fun b => b = R ∨ b = P) w ((w2.setCell ⟨R, 3, none⟩ (.slice (some ⟨C, 0, none⟩) n ca)).drew)) := (HO.out.set (S := fun b => b = R ∨ b = P) (b := R) (.inl rfl)).trans (Onl.of_below (Below.refl _ _).drew)
    have HP3 : Hid (Prt ((w2.setCell ⟨R, 3, none⟩ (.slice (some ⟨C, 0, none⟩) n ca)).drew) P td.2.1 len) := (HP2.out.keep ((grown_set w2 R 3 _).block P HP2.out.lt (fun e => (HP2.out.ne HR2.out) (by cases e; rfl)))).below (Below.refl _ _).drew
    have HX3 : Hid (Bk ((w2.setCell ⟨R, 3, none⟩ (.slice (some ⟨C, 0, none⟩) n ca)).drew) w1.heap.size 138 [.slice ba bl bc, .slice qa qn qc, .int .i64 fr, .int .i64 wd, .int .i64 b0, .int .i64 j0, .int .i64 ans]) := (HX.out.other (by have hs := HB1.out.size; have hl := HRl.out; omega)).drew
    clear r3 z3 HR2 HO HP2 HX
    generalize (w2.setCell ⟨R, 3, none⟩ (.slice (some ⟨C, 0, none⟩) n ca)).drew = w3 at *
    have r3 := HR3.out.cell (j := 3) rfl
    have x6 := HX3.out.cell (j := 6) rfl
    go_wp2_with fail
    refine (end36 R 1 0 _ w3 HR3.out.cl rfl).mono ?_
    rintro e w4 ⟨rfl, rfl⟩
    go_wp2
    go_returns
    refine ⟨rfl, (HO3.out.set (S := fun b => b = R ∨ b = P) (b := R) (.inl rfl)).set (S := fun b => b = R ∨ b = P) (b := R) (.inl rfl), ?_, ?_⟩
    · have h := (HR3.out.set 9 (.int .i64 1)).set 10 (.int .i64 0)
      have hz := HZ0.out
      subst hz
      exact h
    · exact (HP3.out.keep ((grown_set w3 R 9 _).block P HP3.out.lt (fun e => (HP3.out.ne HR3.out) (by cases e; rfl)))).keep ((grown_set _ R 10 _).block P (by simp; exact HP3.out.lt) (fun e => (HP3.out.ne HR3.out) (by cases e; rfl))))
end
section
open Go.RowKit Go.Shelf
/-- A number of 64 bits. -/
def I64 (v : Int) : Prop := -9223372036854775808 ≤ v ∧ v ≤ 9223372036854775807
theorem i64_wrap (z : Int) : I64 (wrap64 z) := by unfold I64 wrap64; omega
theorem i64_small (z : Int) (h : -1000000 ≤ z) (h' : z ≤ 1000000) : I64 z := by unfold I64; omega
/-- Numbers of 64 bits. -/
def N64 (l : List Fun) : Prop := ∀ x ∈ l, ∀ b ∈ x.bs, ∀ i ∈ b.l, I64 i.n
/-- A call: its function's number, its registers, its frame, where it is, where its answer goes. -/
structure Cal where
  k : Nat
  rg : List Int
  fr : Int
  b : Nat
  j : Nat
  an : Int
/-- A part of memory: of an ended one the kind is 0. -/
structure Par where
  kd : Int
  ad : Int
  ws : List Int
/-- A run: the innermost call, those around it (the nearest first), the parts, how many have ended, the next address, the heap's words, what was not read, what was printed, the steps. -/
structure St where
  top : Cal
  low : List Cal
  ps : List Par
  en : Int
  nx : Int
  hp : Int
  inp : List UInt8
  out : List UInt8
  st : Nat
/-- What a run tells. -/
structure Oc where
  en : Int
  cd : Int
  out : List UInt8
  st : Nat
def setR (c : Cal) (d v : Int) : Cal := if d = -1 then c else { c with rg := c.rg.set d.toNat v }
def getR (c : Cal) (a : Int) : Int := if a = -1 then 0 else c.rg.getD a.toNat 0
/-- What an operation makes of two numbers. -/
def binV (l : List UInt8) (a b : Int) : Int :=
  if l = [97, 100, 100] then wrap64 (a + b) else if l = [115, 117, 98] then wrap64 (a - b) else if l = [109, 117, 108] then wrap64 (a * b) else if l = [109, 117, 108, 104] then hiV a b else if l = [100, 105, 118] then quoV a b else if l = [114, 101, 109] then remV a b else if l = [97, 110, 100] then bits .and .i64 a b else if l = [111, 114] then bits .or .i64 a b else if l = [120, 111, 114] then bits .xor .i64 a b else if l = [115, 108, 108] then sllV a b else if l = [115, 114, 108] then srlV a b else if l = [115, 114, 97] then sraV a b else if l = [115, 108, 116] then sltV a b else sltuV a b
/-- The parts' keys. -/
def fdK (l : List (Int × Int × Nat)) (t : Int) : Nat := bsF (fun k => decide (t < (match l[k]? with | some p => p.2.1 | none => 0))) 0 l.length
def tdK {α : Type} (key : α → Int × Int × Nat) (l : List α) (e : Int) : List α × Int := if 2 * e < l.length then (l, e) else (l.filter fun a => decide (¬ (key a).1 = 0), 0)
def enK {α : Type} (key : α → Int × Int × Nat) (nil : Int → α) (l : List α) (e kind t c : Int) : Bool × List α × Int := match fdK (l.map key) t with
  | 0 => (false, l, e)
  | k + 1 => match l[k]? with
    | none => (false, l, e)
    | some a => if (key a).1 = kind ∧ (key a).2.1 = t ∧ ((key a).2.2 : Int) = c then (true, (tdK key (l.set k (nil t)) (e + 1)).1, (tdK key (l.set k (nil t)) (e + 1)).2) else (false, l, e)
def kyP (p : Pt) : Int × Int × Nat := (p.kd, p.at_, p.wn)
def kyA (p : Par) : Int × Int × Nat := (p.kd, p.ad, if p.kd = 0 then 0 else p.ws.length)
def nilA (t : Int) : Par := ⟨0, t, []⟩
theorem fdP_key (l : List Pt) (t : Int) : fdP l t = fdK (l.map kyP) t := by
  unfold fdP fdK
  rw [List.length_map]
  congr 1
  funext k
  unfold atF
  rw [List.getElem?_map]
  cases l[k]? <;> rfl
theorem enP_key (l : List Pt) (e kind t c : Int) : enP l e kind t c = enK kyP (fun t => ⟨0, t, none, 0, 0⟩) l e kind t c := by
  unfold enP enK
  rw [fdP_key]
  cases fdK (l.map kyP) t with
  | zero => rfl
  | succ k =>
    simp only []
    cases l[k]? with
    | none => rfl
    | some p => rfl
theorem tdK_map {α β : Type} (f : α → β) (ka : α → Int × Int × Nat) (kb : β → Int × Int × Nat) (hk : ∀ a, kb (f a) = ka a) (l : List α) (e : Int) : tdK kb (l.map f) e = ((tdK ka l e).1.map f, (tdK ka l e).2) := by
  unfold tdK
  rw [List.length_map]
  split
  · rfl
  · rw [List.filter_map]
    congr 2
    apply List.filter_congr
    intro a _
    simp [hk]
theorem enK_map {α β : Type} (f : α → β) (ka : α → Int × Int × Nat) (kb : β → Int × Int × Nat) (na : Int → α) (nb : Int → β) (hk : ∀ a, kb (f a) = ka a) (hn : ∀ t, f (na t) = nb t) (l : List α) (e kind t c : Int) : enK kb nb (l.map f) e kind t c = ((enK ka na l e kind t c).1, (enK ka na l e kind t c).2.1.map f, (enK ka na l e kind t c).2.2) := by
  unfold enK
  rw [List.map_map, show kb ∘ f = ka from funext hk]
  cases fdK (l.map ka) t with
  | zero => rfl
  | succ k =>
    simp only [List.getElem?_map]
    cases l[k]? with
    | none => rfl
    | some a =>
      simp only [Option.map_some, hk]
      split
      · rw [← hn, ← List.map_set, tdK_map f ka kb hk]
      · rfl
theorem tdK_len {α : Type} (key : α → Int × Int × Nat) (l : List α) (e : Int) : (tdK key l e).1.length ≤ l.length := by
  unfold tdK
  split
  · exact Nat.le_refl _
  · exact List.length_filter_le _ _
theorem tdK_en {α : Type} (key : α → Int × Int × Nat) (l : List α) (e : Int) (h : 0 ≤ e) : 0 ≤ (tdK key l e).2 ∧ (tdK key l e).2 ≤ e := by
  unfold tdK
  split
  · exact ⟨h, Int.le_refl _⟩
  · exact ⟨Int.le_refl _, h⟩
theorem enK_len {α : Type} (key : α → Int × Int × Nat) (nil : Int → α) (l : List α) (e kind t c : Int) : (enK key nil l e kind t c).2.1.length ≤ l.length := by
  unfold enK
  split
  · exact Nat.le_refl _
  · split
    · exact Nat.le_refl _
    · rename_i k _ _ _ _
      split
      · have := tdK_len key (l.set k (nil t)) (e + 1); rw [List.length_set] at this; exact this
      · exact Nat.le_refl _
theorem enK_en {α : Type} (key : α → Int × Int × Nat) (nil : Int → α) (l : List α) (e kind t c : Int) (h : 0 ≤ e) : 0 ≤ (enK key nil l e kind t c).2.2 ∧ (enK key nil l e kind t c).2.2 ≤ e + 1 := by
  have h0 : 0 ≤ e ∧ e ≤ e + 1 := ⟨h, by omega⟩
  unfold enK
  split
  · exact h0
  · split
    · exact h0
    · rename_i k _ _ _ _
      split
      · exact tdK_en key (l.set k (nil t)) (e + 1) (by omega)
      · exact h0
/-- What is left is what was there, or one that has ended. -/
theorem enK_mem {α : Type} (key : α → Int × Int × Nat) (nil : Int → α) (l : List α) (e kind t c : Int) : ∀ a ∈ (enK key nil l e kind t c).2.1, a ∈ l ∨ a = nil t := by
  have h1 : ∀ k, ∀ a ∈ l.set k (nil t), a ∈ l ∨ a = nil t := fun k a ha => List.mem_or_eq_of_mem_set ha
  unfold enK
  split
  · exact fun a ha => .inl ha
  · split
    · exact fun a ha => .inl ha
    · split
      · intro a ha
        simp only [] at ha
        unfold tdK at ha
        split at ha
        · exact h1 _ a ha
        · exact h1 _ a (List.mem_filter.1 ha).1
      · exact fun a ha => .inl ha
/-- Where the word at an address is. -/
def woS (l : List Par) (t : Int) : Option (Nat × Nat) := match fdK (l.map kyA) t with
  | 0 => none
  | k + 1 => if t % 8 = 0 then (match l[k]? with
    | none => none
    | some p => if ((kyA p).2.2 : Int) ≤ (t - p.ad) / 8 then none else some (k, ((t - p.ad) / 8).toNat)) else none
def wdAt (l : List Par) (k m : Nat) : Int := ((l[k]?).bind fun p => p.ws[m]?).getD 0
def wdSet (l : List Par) (k m : Nat) (v : Int) : List Par := match l[k]? with
  | some p => l.set k { p with ws := p.ws.set m v }
  | none => l
def insAt (p : List Fun) (c : Cal) : Option Ins := (p[c.k]?).bind fun f => (f.bs[c.b]?).bind fun b => b.l[c.j]?
/-- The number of the function with a name (the last one of that name). -/
def ixOf (l : List Fun) (s : ByteArray) : Nat := (l.findIdx? fun y => decide (y.h.nm = s)).getD 0
def frOf (p : List Fun) (k : Nat) : Nat := ((p[k]?).map fun f => f.h.fr.toNat).getD 0
def rgOf (p : List Fun) (k : Nat) : Nat := ((p[k]?).map fun f => f.h.rg.toNat).getD 0
/-- A call begins. -/
def entS (p : List Fun) (s : St) (c : Cal) (k : Nat) (vs : List Int) (an : Int) : St := { s with top := ⟨k, vs ++ List.replicate (rgOf p k - vs.length) 0, s.nx, 0, 0, an⟩, low := c :: s.low, ps := s.ps ++ [⟨1, s.nx, List.replicate (frOf p k) 0⟩], nx := s.nx + 8 * ((frOf p k : Int) + 1) }
def endS (s : St) (kind t c : Int) : Bool × St := ((enK kyA nilA s.ps s.en kind t c).1, { s with ps := (enK kyA nilA s.ps s.en kind t c).2.1, en := (enK kyA nilA s.ps s.en kind t c).2.2 })
/-- A call ends. -/
def bakS (p : List Fun) (s : St) (v : Int) : St ⊕ Oc := match s.low with
  | [] => .inr ⟨1, 0, s.out, s.st⟩
  | t :: r => .inl { (endS s 1 s.top.fr (frOf p s.top.k)).2 with top := setR t s.top.an v, low := r }
/-- A function is called. -/
def calS (p : List Fun) (s : St) (i : Ins) : St ⊕ Oc :=
  let c := s.top
  let vs := i.gs.map (getR c)
  if i.nm.data.toList = [114, 116, 46, 112, 114, 105, 110, 116] then .inl { s with top := setR c i.d 0, out := s.out ++ (Lib.itoa (vs.getD 0 0) ++ [10]) }
  else if i.nm.data.toList = [114, 116, 46, 114, 101, 97, 100] then .inl { s with top := setR c i.d (match s.inp with | [] => -1 | b :: _ => (b.toNat : Int)), inp := s.inp.tail }
  else if i.nm.data.toList = [114, 116, 46, 97, 108, 108, 111, 99] then
    (if vs.getD 0 0 < 0 ∨ 64 < vs.getD 0 0 ∨ 8192 < s.hp + vs.getD 0 0 then .inr ⟨1, 110, s.out, s.st⟩
    else .inl { s with top := setR c i.d s.nx, ps := s.ps ++ [⟨2, s.nx, List.replicate (vs.getD 0 0).toNat 0⟩], hp := s.hp + vs.getD 0 0, nx := s.nx + 8 * (vs.getD 0 0 + 1) })
  else if i.nm.data.toList = [114, 116, 46, 102, 114, 101, 101] then
    (if (endS s 2 (vs.getD 0 0) (vs.getD 1 0)).1 = true then .inl { (endS s 2 (vs.getD 0 0) (vs.getD 1 0)).2 with top := setR c i.d 0, hp := s.hp - vs.getD 1 0 } else .inr ⟨3, 0, s.out, s.st⟩)
  else .inl (entS p s c (ixOf p i.nm) vs i.d)
/-- One instruction is done. -/
def stpS (p : List Fun) (s : St) (i : Ins) : St ⊕ Oc :=
  let c : Cal := { s.top with j := s.top.j + 1 }
  if i.op = 1 then .inl { s with top := setR c i.d i.n }
  else if i.op = 2 then .inl { s with top := setR c i.d (getR c i.a) }
  else if i.op = 3 then .inl { s with top := setR c i.d (binV i.nm.data.toList (getR c i.a) (getR c i.b)) }
  else if i.op = 4 then (match woS s.ps (wrap64 (getR c i.a + i.n)) with
    | some (k, m) => .inl { s with top := setR c i.d (wdAt s.ps k m) }
    | none => .inr ⟨3, 0, s.out, s.st⟩)
  else if i.op = 5 then (match woS s.ps (wrap64 (getR c i.a + i.n)) with
    | some (k, m) => .inl { s with top := c, ps := wdSet s.ps k m (getR c i.b) }
    | none => .inr ⟨3, 0, s.out, s.st⟩)
  else if i.op = 6 then .inl { s with top := setR c i.d (wrap64 (c.fr + wrap64 (8 * i.n))) }
  else if i.op = 7 then calS p { s with top := c } i
  else if i.op = 8 then .inl { s with top := { c with b := i.to.toNat, j := 0 } }
  else if i.op = 9 then .inl { s with top := { c with b := (if getR c i.a = 0 then i.el else i.to).toNat, j := 0 } }
  else if i.op = 10 then bakS p { s with top := c } (getR c i.a)
  else .inr ⟨1, i.n, s.out, s.st⟩
/-- Is it a call too many? -/
def depB (s : St) (i : Ins) : Bool := decide (i.op = 7) && (decide (1000 ≤ s.low.length + 1) && (rtA i.nm.data.toList).isNone)
/-- So many steps more. -/
def runS (p : List Fun) : Nat → St → Oc
  | 0, s => ⟨2, 0, s.out, s.st⟩
  | n + 1, s => match insAt p s.top with
    | none => ⟨0, 0, s.out, s.st⟩
    | some i => if depB s i then ⟨2, 0, s.out, s.st⟩ else match stpS p { s with st := s.st + 1 } i with
      | .inl s' => runS p n s'
      | .inr o => o
end
end Go.Proofs.YtdppoblbenbafaaGreatDoor
