/- A frame ends; a call comes back. A call comes back. The three instructions, done. -/
import Derived.Test.YtdppoblbenbafaaDoorXAI
import Derived.Deep.RegionHeld3
import Derived.Test.YtdppoblbenbafaaDoorXAQ
namespace Go.Proofs.YtdppoblbenbafaaDoor
section
open Go.RowKit Go.Shelf
set_option maxRecDepth 20000 in
set_option maxHeartbeats 2000000 in
theorem end55 (R P pa : Nat) (wa : Option Addr) (wc : Nat) (f : List Value) (w : World) (hP : Cl w P [.int .i64 1, .int .i64 65536, .slice wa 0 wc]) (hR : Cl w R f) (hf : f.length = 13) (h4 : f[4]? = some (.slice (some ⟨P, 0, none⟩) 1 pa)) (h5 : f[5]? = some (.int .i64 0)) (hne : R ≠ P) : Calls Tryd.prog 58 #[.pointer (some ⟨R, 4, none⟩), .int .i64 1, .int .i64 65536, .int .i64 0] w fun e w' => e = .returned (.bool true) ∧ Onl (fun b => b = R ∨ b = P) w w' ∧ Cl w' R ((f.set 4 (.slice (some ⟨P, 0, none⟩) 0 pa)).set 5 (.int .i64 0)) := by
  have hF : Hid (Calls Tryd.prog 63 #[.pointer (some ⟨R, 4, none⟩), .int .i64 65536] w fun e w' => e = .returned (.int .i64 0) ∧ Below w.heap.size w w') := find60 R P pa w (hR.cell h4) (hP.cell (j := 1) rfl) hR.lt hP.lt
  have HP : Hid (Cl w P [.int .i64 1, .int .i64 65536, .slice wa 0 wc]) := hP
  have HR : Hid (Cl w R f) := hR
  have HF : Hid (f.length = 13) := hf
  have H4 : Hid (f[4]? = some (.slice (some ⟨P, 0, none⟩) 1 pa)) := h4
  have H5 : Hid (f[5]? = some (.int .i64 0)) := h5
  have HN : Hid (R ≠ P) := hne
  clear hP hR h4 h5 hf hne
  go_enter Tryd.func58, Tryd.ntmps58
  go_wp2_with fail
  refine hF.out.mono ?_
  rintro e w1 ⟨rfl, hb⟩
  have HB : Hid (Below w.heap.size w w1) := hb
  have hP1 := HP.out.below hb
  have hR1 := HR.out.below hb
  have p0 := hP1.cell (j := 0) rfl
  have p1 := hP1.cell (j := 1) rfl
  have p2 := hP1.cell (j := 2) rfl
  have q0 := acell hP1.lt p0
  have q1 := acell hP1.lt p1
  have q2 := acell hP1.lt p2
  have r4 := hR1.cell H4.out
  have r5 := hR1.cell H5.out
  have s4 := acell hR1.lt r4
  have s5 := acell hR1.lt r5
  have y0 := (hP1.alloc (.cells #[.int .i64 1, .int .i64 65536, .slice wa 0 wc] 96)).fz 0
  have y1 := (hP1.alloc (.cells #[.int .i64 1, .int .i64 65536, .slice wa 0 wc] 96)).fz 1
  have y2 := (hP1.alloc (.cells #[.int .i64 1, .int .i64 65536, .slice wa 0 wc] 96)).fz 2
  have y5 := (hR1.alloc (.cells #[.int .i64 1, .int .i64 65536, .slice wa 0 wc] 96)).fz 5
  have n0 : ¬ R = P := HN.out
  have n1 : ¬ P = R := fun e => HN.out e.symm
  have HP2 : Hid (Cl (w1.alloc (.cells #[.int .i64 1, .int .i64 65536, .slice wa 0 wc] 96)) P [.int .i64 1, .int .i64 65536, .slice wa 0 wc]) := hP1.alloc _
  have HR2 : Hid (Cl (w1.alloc (.cells #[.int .i64 1, .int .i64 65536, .slice wa 0 wc] 96)) R f) := hR1.alloc _
  clear hb hP1 hR1
  go_wp2_with fail
  have hP3 : Cl (((((w1.alloc (.cells #[.int .i64 1, .int .i64 65536, .slice wa 0 wc] 96)).setCell ⟨P, 0, none⟩ (.int .i64 0)).setCell ⟨P, 1, none⟩ (.int .i64 65536)).setCell ⟨P, 2, none⟩ (.slice none 0 0)).setCell ⟨R, 5, none⟩ (.int .i64 1)) P [.int .i64 0, .int .i64 65536, .slice none 0 0] := (((HP2.out.set (o := 0) (by simp) (.int .i64 0)).set (o := 1) (by simp) (.int .i64 65536)).set (o := 2) (by simp) (.slice none 0 0)).other n1
  have hR3 : Cl (((((w1.alloc (.cells #[.int .i64 1, .int .i64 65536, .slice wa 0 wc] 96)).setCell ⟨P, 0, none⟩ (.int .i64 0)).setCell ⟨P, 1, none⟩ (.int .i64 65536)).setCell ⟨P, 2, none⟩ (.slice none 0 0)).setCell ⟨R, 5, none⟩ (.int .i64 1)) R (f.set 5 (.int .i64 1)) := (((HR2.out.other n0).other n0).other n0).set (by have := HF.out; omega) _
  refine (tidy62 R P pa 65536 _ _ hP3 hR3 (by simp; exact HF.out) (by rw [List.getElem?_set_ne (by omega)]; exact H4.out) (by rw [List.getElem?_set_self (by have := HF.out; omega)]) HN.out).mono ?_
  rintro e w2 ⟨rfl, ho, hc⟩
  have HO : Hid (Onl (fun b => b = R ∨ b = P) w w2) := (((((Onl.of_below HB.out).alloc _).set (b := P) (.inr rfl)).set (b := P) (.inr rfl)).set (b := P) (.inr rfl) |>.set (b := R) (.inl rfl)).trans ho
  have HC : Hid (Cl w2 R ((f.set 4 (.slice (some ⟨P, 0, none⟩) 0 pa)).set 5 (.int .i64 0))) := by
    have e : ((f.set 5 (.int .i64 1)).set 4 (.slice (some ⟨P, 0, none⟩) 0 pa)).set 5 (.int .i64 0) = (f.set 4 (.slice (some ⟨P, 0, none⟩) 0 pa)).set 5 (.int .i64 0) := by
      rw [List.set_comm _ _ (by omega : 5 ≠ 4), List.set_set]
    rw [e] at hc
    exact hc
  clear ho hc hP3 hR3
  go_wp2
  go_ret
  exact ⟨rfl, HO.out, HC.out⟩
end
section
open Go.RowKit Go.Shelf
set_option maxRecDepth 20000 in
set_option maxHeartbeats 2000000 in
theorem back44 (R C P pa ca : Nat) (wa : Option Addr) (wc : Nat) (y q : Nat) (at_ : Int) (f : List Value) (w : World) (hC : Cl w C [.slice (some ⟨y, 0, none⟩) 1 1, .slice (some ⟨q, 0, none⟩) 1 1, .int .i64 65536, .int .i64 0, .int .i64 0, .int .i64 at_, .int .i64 (-1)]) (hP : Cl w P [.int .i64 1, .int .i64 65536, .slice wa 0 wc]) (hR : Cl w R f) (hf : f.length = 13) (h3 : f[3]? = some (.slice (some ⟨C, 0, none⟩) 1 ca)) (h4 : f[4]? = some (.slice (some ⟨P, 0, none⟩) 1 pa)) (h5 : f[5]? = some (.int .i64 0)) (hne : R ≠ P) : Calls Tryd.prog 45 #[.pointer (some ⟨R, 0, none⟩), .int .i64 0] w fun e w' => e = .returned (.tuple #[]) ∧ Onl (fun b => b = R ∨ b = P) w w' ∧ Cl w' R (((((f.set 4 (.slice (some ⟨P, 0, none⟩) 0 pa)).set 5 (.int .i64 0)).set 3 (.slice (some ⟨C, 0, none⟩) 0 ca)).set 9 (.int .i64 1)).set 10 (.int .i64 0)) := by
  have hI : Hid (Calls Tryd.prog 41 #[.pointer (some ⟨R, 0, none⟩)] w fun e w' => e = .returned (.pointer (some ⟨C, 0, none⟩)) ∧ ∃ n, w' = w.drewN n) := innermost40 R C ca w (hR.cell h3)
  have HE : Hid (∀ W, Below w.heap.size w W → Calls Tryd.prog 58 #[.pointer (some ⟨R, 4, none⟩), .int .i64 1, .int .i64 65536, .int .i64 0] W fun e w' => e = .returned (.bool true) ∧ Onl (fun b => b = R ∨ b = P) W w' ∧ Cl w' R ((f.set 4 (.slice (some ⟨P, 0, none⟩) 0 pa)).set 5 (.int .i64 0))) := fun W hW => end55 R P pa wa wc f W (hP.below hW) (hR.below hW) hf h4 h5 hne
  have HC : Hid (Cl w C [.slice (some ⟨y, 0, none⟩) 1 1, .slice (some ⟨q, 0, none⟩) 1 1, .int .i64 65536, .int .i64 0, .int .i64 0, .int .i64 at_, .int .i64 (-1)]) := hC
  have HF : Hid (f.length = 13) := hf
  have H3 : Hid (f[3]? = some (.slice (some ⟨C, 0, none⟩) 1 ca)) := h3
  clear hC hP hR h3 h4 h5 hf hne
  go_enter Tryd.func45, Tryd.ntmps45
  go_wp2_with fail
  refine hI.out.mono ?_
  rintro e w1 ⟨rfl, n1, hw1⟩
  have hb1 : Below w.heap.size w w1 := by rw [hw1]; exact below_drewN (Below.refl _ _) n1
  have HB1 : Hid (Below w.heap.size w w1) := hb1
  have hC1 := HC.out.below hb1
  have k0 := hC1.cell (j := 0) rfl
  have k1 := hC1.cell (j := 1) rfl
  have k2 := hC1.cell (j := 2) rfl
  have k3 := hC1.cell (j := 3) rfl
  have k4 := hC1.cell (j := 4) rfl
  have k5 := hC1.cell (j := 5) rfl
  have k6 := hC1.cell (j := 6) rfl
  clear hw1 hb1 hC1
  go_wp2
  go_region_with (first | (go_at_call 58; refine (HE.out _ (by first | exact (HB1.out.alloc HB1.out.size _).drew | exact (HB1.out.alloc HB1.out.size _))).mono ?_; rintro e w2 ⟨rfl, ho, hc⟩; have HO : Hid (Onl (fun b => b = R ∨ b = P) w w2) := (Onl.of_below (by first | exact (HB1.out.alloc HB1.out.size _).drew | exact (HB1.out.alloc HB1.out.size _))).trans ho; have HC2 : Hid (Cl w2 R ((f.set 4 (.slice (some ⟨P, 0, none⟩) 0 pa)).set 5 (.int .i64 0))) := hc; clear ho hc))
  all_goals (
    have H3' : ((f.set 4 (.slice (some ⟨P, 0, none⟩) 0 pa)).set 5 (.int .i64 0))[3]? = some (.slice (some ⟨C, 0, none⟩) 1 ca) := by
      rw [List.getElem?_set_ne (by omega), List.getElem?_set_ne (by omega)]
      exact H3.out
    have r3 := HC2.out.cell H3'
    have z3 := HC2.out.fz 3
    clear H3'
    go_wp2
    go_region
    have HC3 : Hid (Cl ((w2.setCell ⟨R, 3, none⟩ (.slice (some ⟨C, 0, none⟩) 0 ca)).drew) R (((f.set 4 (.slice (some ⟨P, 0, none⟩) 0 pa)).set 5 (.int .i64 0)).set 3 (.slice (some ⟨C, 0, none⟩) 0 ca))) := (HC2.out.set (by have := HF.out; simp; omega) _).drew
    have HO3 : Hid (Onl (fun b => b = R ∨ b = P) w ((w2.setCell ⟨R, 3, none⟩ (.slice (some ⟨C, 0, none⟩) 0 ca)).drew)) := (HO.out.set (b := R) (.inl rfl)).trans (Onl.of_below (Below.refl _ _).drew)
    clear r3 z3 HC2 HO
    generalize (w2.setCell ⟨R, 3, none⟩ (.slice (some ⟨C, 0, none⟩) 0 ca)).drew = w3 at *
    have r3 := HC3.out.cell (j := 3) (v := .slice (some ⟨C, 0, none⟩) 0 ca) (by rw [List.getElem?_set_self (by have := HF.out; simp; omega)])
    go_wp2_with fail
    refine (end36 R 1 0 _ w3 HC3.out (by simp; exact HF.out)).mono ?_
    rintro e w4 ⟨rfl, rfl⟩
    go_wp2
    go_returns
    exact ⟨rfl, (HO3.out.set (b := R) (.inl rfl)).set (b := R) (.inl rfl), (HC3.out.set (by have := HF.out; simp; omega) _).set (by have := HF.out; simp; omega) _⟩)
end
section
open Go.RowKit Go.Shelf
theorem set5 (y Q : Nat) (a b : Int) : ([.slice (some ⟨y, 0, none⟩) 1 1, .slice (some ⟨Q, 0, none⟩) 1 1, .int .i64 65536, .int .i64 0, .int .i64 0, .int .i64 a, .int .i64 (-1)] : List Value).set 5 (.int .i64 b) = [.slice (some ⟨y, 0, none⟩) 1 1, .slice (some ⟨Q, 0, none⟩) 1 1, .int .i64 65536, .int .i64 0, .int .i64 0, .int .i64 b, .int .i64 (-1)] := rfl
set_option maxRecDepth 20000 in
set_option maxHeartbeats 2000000 in
theorem do_const (R C Q ca x z y : Nat) (f : List Value) (w : World) (hC : Cl w C [.slice (some ⟨y, 0, none⟩) 1 1, .slice (some ⟨Q, 0, none⟩) 1 1, .int .i64 65536, .int .i64 0, .int .i64 0, .int .i64 0, .int .i64 (-1)]) (hQ : Cl w Q [.int .i64 0]) (hR : Cl w R f) (hf : f.length = 13) (h3 : f[3]? = some (.slice (some ⟨C, 0, none⟩) 1 ca)) (hI : Ib w x z) (hxC : x ≠ C) (hQC : Q ≠ C) : Calls Tryd.prog 22 #[.pointer (some ⟨R, 0, none⟩), .pointer (some ⟨x, 0, none⟩)] w fun e w' => e = .returned (.tuple #[]) ∧ Onl (fun b => b = C ∨ b = Q) w w' ∧ Cl w' C [.slice (some ⟨y, 0, none⟩) 1 1, .slice (some ⟨Q, 0, none⟩) 1 1, .int .i64 65536, .int .i64 0, .int .i64 0, .int .i64 1, .int .i64 (-1)] ∧ Cl w' Q [.int .i64 7] := by
  have hI40 : Hid (Calls Tryd.prog 41 #[.pointer (some ⟨R, 0, none⟩)] w fun e w' => e = .returned (.pointer (some ⟨C, 0, none⟩)) ∧ ∃ n, w' = w.drewN n) := innermost40 R C ca w (hR.cell h3)
  have HC : Hid (Cl w C [.slice (some ⟨y, 0, none⟩) 1 1, .slice (some ⟨Q, 0, none⟩) 1 1, .int .i64 65536, .int .i64 0, .int .i64 0, .int .i64 0, .int .i64 (-1)]) := hC
  have HQ : Hid (Cl w Q [.int .i64 0]) := hQ
  have HR : Hid (Cl w R f) := hR
  have HI : Hid (Ib w x z) := hI
  have HF : Hid (f.length = 13) := hf
  have H3 : Hid (f[3]? = some (.slice (some ⟨C, 0, none⟩) 1 ca)) := h3
  have HXC : Hid (x ≠ C) := hxC
  have HQC : Hid (Q ≠ C) := hQC
  clear hC hQ hR hf h3 hI hxC hQC
  go_enter Tryd.func22, Tryd.ntmps22
  go_wp2_with fail
  refine hI40.out.mono ?_
  rintro e w1 ⟨rfl, n1, hw1⟩
  have hb1 : Below w.heap.size w w1 := by rw [hw1]; exact below_drewN (Below.refl _ _) n1
  have HB1 : Hid (Below w.heap.size w w1) := hb1
  have hC1 := HC.out.below hb1
  have hI1 := HI.out.below hb1
  have k5 := hC1.cell (j := 5) rfl
  have z5 := hC1.fz 5
  have e1 : ¬ x = C := HXC.out
  have e2 : ¬ C = x := fun e => HXC.out e.symm
  have HC1 : Hid (Cl w1 C [.slice (some ⟨y, 0, none⟩) 1 1, .slice (some ⟨Q, 0, none⟩) 1 1, .int .i64 65536, .int .i64 0, .int .i64 0, .int .i64 0, .int .i64 (-1)]) := hC1
  have i0 := hI1.at_ 0 _ rfl
  have i1 := hI1.at_ 1 _ rfl
  have i4 := hI1.at_ 4 _ rfl
  have k1 := hC1.cell (j := 1) rfl
  have hQ1 := HQ.out.below hb1
  have HQ1 : Hid (Cl w1 Q [.int .i64 0]) := hQ1
  have q0 := hQ1.cell (j := 0) rfl
  have zq := hQ1.fz 0
  have e3 : ¬ Q = C := HQC.out
  have e4 : ¬ C = Q := fun e => HQC.out e.symm
  clear hw1 hb1 hC1 hI1 hQ1
  go_wp2
  go_region
  go_wp2
  go_returns
  refine ⟨rfl, ?_, ?_, ?_⟩
  · exact (((Onl.of_below (S := fun b => b = C ∨ b = Q) HB1.out).set (b := C) (.inl rfl)).set (b := Q) (.inr rfl)).trans (Onl.of_below (Below.refl _ _).drew)
  · exact ((HC1.out.set (o := 5) (by simp) (.int .i64 1)).other e4).drew
  · exact ((HQ1.out.other e3).set (o := 0) (by simp) (.int .i64 7)).drew
set_option maxRecDepth 20000 in
set_option maxHeartbeats 2000000 in
theorem do_call7 (R C Q ca x z y : Nat) (f : List Value) (w : World) (hC : Cl w C [.slice (some ⟨y, 0, none⟩) 1 1, .slice (some ⟨Q, 0, none⟩) 1 1, .int .i64 65536, .int .i64 0, .int .i64 0, .int .i64 1, .int .i64 (-1)]) (hQ : Cl w Q [.int .i64 7]) (hR : Cl w R f) (hf : f.length = 13) (h3 : f[3]? = some (.slice (some ⟨C, 0, none⟩) 1 ca)) (h11 : f[11]? = some (.slice none 0 0)) (hI : Ib w x z) (hxC : x ≠ C) (hQC : Q ≠ C) (hRC : R ≠ C) (hzC : z ≠ C) (hxR : x ≠ R) : Calls Tryd.prog 22 #[.pointer (some ⟨R, 0, none⟩), .pointer (some ⟨x, 9, none⟩)] w fun e w' => e = .returned (.tuple #[]) ∧ ∃ g cap, Onl (fun b => b = R ∨ b = C) w w' ∧ Cl w' C [.slice (some ⟨y, 0, none⟩) 1 1, .slice (some ⟨Q, 0, none⟩) 1 1, .int .i64 65536, .int .i64 0, .int .i64 0, .int .i64 2, .int .i64 (-1)] ∧ Cl w' R (f.set 11 (.slice (some ⟨g, 0, none⟩) 2 cap)) ∧ Cl w' g [.int .u8 55, .int .u8 10] ∧ w.heap.size ≤ g := by
  have hI40 : Hid (Calls Tryd.prog 41 #[.pointer (some ⟨R, 0, none⟩)] w fun e w' => e = .returned (.pointer (some ⟨C, 0, none⟩)) ∧ ∃ n, w' = w.drewN n) := innermost40 R C ca w (hR.cell h3)
  have HC : Hid (Cl w C [.slice (some ⟨y, 0, none⟩) 1 1, .slice (some ⟨Q, 0, none⟩) 1 1, .int .i64 65536, .int .i64 0, .int .i64 0, .int .i64 1, .int .i64 (-1)]) := hC
  have HQ : Hid (Cl w Q [.int .i64 7]) := hQ
  have HR : Hid (Cl w R f) := hR
  have HI : Hid (Ib w x z) := hI
  have HF : Hid (f.length = 13) := hf
  have H3 : Hid (f[3]? = some (.slice (some ⟨C, 0, none⟩) 1 ca)) := h3
  have HXC : Hid (x ≠ C) := hxC
  have HN : Hid (Q ≠ C ∧ R ≠ C ∧ z ≠ C ∧ x ≠ R) := ⟨hQC, hRC, hzC, hxR⟩
  have H11 : Hid (f[11]? = some (.slice none 0 0)) := h11
  clear hC hQ hR hf h3 hI hxC hQC hRC hzC hxR h11
  go_enter Tryd.func22, Tryd.ntmps22
  go_wp2_with fail
  refine hI40.out.mono ?_
  rintro e w1 ⟨rfl, n1, hw1⟩
  have hb1 : Below w.heap.size w w1 := by rw [hw1]; exact below_drewN (Below.refl _ _) n1
  have HB1 : Hid (Below w.heap.size w w1) := hb1
  have hC1 := HC.out.below hb1
  have hI1 := HI.out.below hb1
  have k5 := hC1.cell (j := 5) rfl
  have z5 := hC1.fz 5
  have e1 : ¬ x = C := HXC.out
  have e2 : ¬ C = x := fun e => HXC.out e.symm
  have HC1 : Hid (Cl w1 C [.slice (some ⟨y, 0, none⟩) 1 1, .slice (some ⟨Q, 0, none⟩) 1 1, .int .i64 65536, .int .i64 0, .int .i64 0, .int .i64 1, .int .i64 (-1)]) := hC1
  have i0 := hI1.at_ 9 _ rfl
  have HIS : Hid (Ib (w1.setCell ⟨C, 5, none⟩ (.int .i64 2)) x z) := ⟨fun j v hj => by rw [World.cell?_of_block ((grown_set w1 C 5 _).block x hI1.lx (fun e => HXC.out (by cases e; rfl)))]; exact hI1.at_ j v hj, by rw [World.cell?_of_block ((grown_set w1 C 5 _).block z hI1.lz (fun e => HN.out.2.2.1 (by cases e; rfl)))]; exact hI1.ar, by simp; exact hI1.lx, by simp; exact hI1.lz⟩
  have HRS : Hid (Cl (w1.setCell ⟨C, 5, none⟩ (.int .i64 2)) R f) := (HR.out.below hb1).other HN.out.2.1
  have HQS : Hid (Cl (w1.setCell ⟨C, 5, none⟩ (.int .i64 2)) Q [.int .i64 7]) := (HQ.out.below hb1).other HN.out.1
  have HCS : Hid (Cl (w1.setCell ⟨C, 5, none⟩ (.int .i64 2)) C [.slice (some ⟨y, 0, none⟩) 1 1, .slice (some ⟨Q, 0, none⟩) 1 1, .int .i64 65536, .int .i64 0, .int .i64 0, .int .i64 2, .int .i64 (-1)]) := hC1.set (o := 5) (by simp) (.int .i64 2)
  clear hw1 hb1 hC1 hI1
  go_wp2_with fail
  refine (call43 R C Q ca x z y 2 f _ HCS.out HQS.out HRS.out HF.out H3.out H11.out HIS.out HN.out.2.2.2).mono ?_
  rintro e w2 ⟨rfl, g, cap, ho, hr, hg, hge⟩
  have HE : Hid (Onl (fun b => b = R ∨ b = C) w w2 ∧ Cl w2 C [.slice (some ⟨y, 0, none⟩) 1 1, .slice (some ⟨Q, 0, none⟩) 1 1, .int .i64 65536, .int .i64 0, .int .i64 0, .int .i64 2, .int .i64 (-1)] ∧ Cl w2 R (f.set 11 (.slice (some ⟨g, 0, none⟩) 2 cap)) ∧ Cl w2 g [.int .u8 55, .int .u8 10] ∧ w.heap.size ≤ g) := ⟨((Onl.of_below (S := fun b => b = R ∨ b = C) HB1.out).set (b := C) (.inr rfl)).trans (ho.mono fun b e => .inl e), HCS.out.onl ho (fun e => HN.out.2.1 e.symm), hr, hg, by have := HB1.out.size; simp at hge; omega⟩
  clear ho hr hg hge
  go_wp2
  go_returns
  exact ⟨rfl, g, cap, HE.out⟩
set_option maxRecDepth 20000 in
set_option maxHeartbeats 2000000 in
theorem do_ret (R C Q P ca pa x z y : Nat) (wa : Option Addr) (wc : Nat) (f : List Value) (w : World) (hC : Cl w C [.slice (some ⟨y, 0, none⟩) 1 1, .slice (some ⟨Q, 0, none⟩) 1 1, .int .i64 65536, .int .i64 0, .int .i64 0, .int .i64 2, .int .i64 (-1)]) (hQ : Cl w Q [.int .i64 7]) (hR : Cl w R f) (hf : f.length = 13) (h3 : f[3]? = some (.slice (some ⟨C, 0, none⟩) 1 ca)) (h4 : f[4]? = some (.slice (some ⟨P, 0, none⟩) 1 pa)) (h5 : f[5]? = some (.int .i64 0)) (hP : Cl w P [.int .i64 1, .int .i64 65536, .slice wa 0 wc]) (hI : Ib w x z) (hxC : x ≠ C) (hRC : R ≠ C) (hPC : P ≠ C) (hRP : R ≠ P) : Calls Tryd.prog 22 #[.pointer (some ⟨R, 0, none⟩), .pointer (some ⟨x, 18, none⟩)] w fun e w' => e = .returned (.tuple #[]) ∧ Onl (fun b => b = R ∨ b = C ∨ b = P) w w' ∧ Cl w' R (((((f.set 4 (.slice (some ⟨P, 0, none⟩) 0 pa)).set 5 (.int .i64 0)).set 3 (.slice (some ⟨C, 0, none⟩) 0 ca)).set 9 (.int .i64 1)).set 10 (.int .i64 0)) := by
  have hI40 : Hid (Calls Tryd.prog 41 #[.pointer (some ⟨R, 0, none⟩)] w fun e w' => e = .returned (.pointer (some ⟨C, 0, none⟩)) ∧ ∃ n, w' = w.drewN n) := innermost40 R C ca w (hR.cell h3)
  have HC : Hid (Cl w C [.slice (some ⟨y, 0, none⟩) 1 1, .slice (some ⟨Q, 0, none⟩) 1 1, .int .i64 65536, .int .i64 0, .int .i64 0, .int .i64 2, .int .i64 (-1)]) := hC
  have HQ : Hid (Cl w Q [.int .i64 7]) := hQ
  have HR : Hid (Cl w R f) := hR
  have HI : Hid (Ib w x z) := hI
  have HF : Hid (f.length = 13) := hf
  have H3 : Hid (f[3]? = some (.slice (some ⟨C, 0, none⟩) 1 ca)) := h3
  have HXC : Hid (x ≠ C) := hxC
  have HN : Hid (R ≠ C ∧ P ≠ C ∧ R ≠ P) := ⟨hRC, hPC, hRP⟩
  have H4 : Hid (f[4]? = some (.slice (some ⟨P, 0, none⟩) 1 pa)) := h4
  have H5 : Hid (f[5]? = some (.int .i64 0)) := h5
  have HP : Hid (Cl w P [.int .i64 1, .int .i64 65536, .slice wa 0 wc]) := hP
  clear hC hQ hR hf h3 hI hxC hRC hPC hRP h4 h5 hP
  go_enter Tryd.func22, Tryd.ntmps22
  go_wp2_with fail
  refine hI40.out.mono ?_
  rintro e w1 ⟨rfl, n1, hw1⟩
  have hb1 : Below w.heap.size w w1 := by rw [hw1]; exact below_drewN (Below.refl _ _) n1
  have HB1 : Hid (Below w.heap.size w w1) := hb1
  have hC1 := HC.out.below hb1
  have hI1 := HI.out.below hb1
  have k5 := hC1.cell (j := 5) rfl
  have z5 := hC1.fz 5
  have e1 : ¬ x = C := HXC.out
  have e2 : ¬ C = x := fun e => HXC.out e.symm
  have HC1 : Hid (Cl w1 C [.slice (some ⟨y, 0, none⟩) 1 1, .slice (some ⟨Q, 0, none⟩) 1 1, .int .i64 65536, .int .i64 0, .int .i64 0, .int .i64 2, .int .i64 (-1)]) := hC1
  have i0 := hI1.at_ 18 _ rfl
  have i2 := hI1.at_ 20 _ rfl
  have HRS : Hid (Cl (w1.setCell ⟨C, 5, none⟩ (.int .i64 3)) R f) := (HR.out.below hb1).other HN.out.1
  have HPS : Hid (Cl (w1.setCell ⟨C, 5, none⟩ (.int .i64 3)) P [.int .i64 1, .int .i64 65536, .slice wa 0 wc]) := (HP.out.below hb1).other HN.out.2.1
  have HCS : Hid (Cl (w1.setCell ⟨C, 5, none⟩ (.int .i64 3)) C [.slice (some ⟨y, 0, none⟩) 1 1, .slice (some ⟨Q, 0, none⟩) 1 1, .int .i64 65536, .int .i64 0, .int .i64 0, .int .i64 3, .int .i64 (-1)]) := hC1.set (o := 5) (by simp) (.int .i64 3)
  clear hw1 hb1 hC1 hI1
  go_wp2_with (first | (go_at_call 46; refine (value_none C _).mono ?_; rintro e w' ⟨rfl, rfl⟩) | (go_at_call 45; refine (back44 R C P pa ca wa wc y Q 3 f _ HCS.out HPS.out HRS.out HF.out H3.out H4.out H5.out HN.out.2.2).mono ?_; rintro e w2 ⟨rfl, ho, hr⟩))
  go_returns
  exact ⟨rfl, ((Onl.of_below (S := fun b => b = R ∨ b = C ∨ b = P) HB1.out).set (b := C) (.inr (.inl rfl))).trans (ho.mono fun b e => e.imp id (fun e => .inr e)), hr⟩
end
end Go.Proofs.YtdppoblbenbafaaDoor
