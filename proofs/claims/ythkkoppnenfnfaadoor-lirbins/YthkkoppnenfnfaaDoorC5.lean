/- A frame ends; a call comes back. -/
import Derived.Test.YthkkoppnenfnfaaDoorC4
namespace Go.Proofs.YthkkoppnenfnfaaDoor
open Go.RowKit Go.Shelf
set_option maxRecDepth 20000 in
set_option maxHeartbeats 2000000 in
theorem end55 (R P pa : Nat) (wa : Option Addr) (wc : Nat) (f : List Value) (w : World) (hP : Cl w P [.int .i64 1, .int .i64 65536, .slice wa 0 wc]) (hR : Cl w R f) (hf : f.length = 13) (h4 : f[4]? = some (.slice (some ⟨P, 0, none⟩) 1 pa)) (h5 : f[5]? = some (.int .i64 0)) (hne : R ≠ P) : Calls Tryd.prog 55 #[.pointer (some ⟨R, 4, none⟩), .int .i64 1, .int .i64 65536, .int .i64 0] w fun e w' => e = .returned (.bool true) ∧ Onl (fun b => b = R ∨ b = P) w w' ∧ Cl w' R ((f.set 4 (.slice (some ⟨P, 0, none⟩) 0 pa)).set 5 (.int .i64 0)) := by
  have hF : Hid (Calls Tryd.prog 60 #[.pointer (some ⟨R, 4, none⟩), .int .i64 65536] w fun e w' => e = .returned (.int .i64 0) ∧ Below w.heap.size w w') := find60 R P pa w (hR.cell h4) (hP.cell (j := 1) rfl) hR.lt hP.lt
  have HP : Hid (Cl w P [.int .i64 1, .int .i64 65536, .slice wa 0 wc]) := hP
  have HR : Hid (Cl w R f) := hR
  have HF : Hid (f.length = 13) := hf
  have H4 : Hid (f[4]? = some (.slice (some ⟨P, 0, none⟩) 1 pa)) := h4
  have H5 : Hid (f[5]? = some (.int .i64 0)) := h5
  have HN : Hid (R ≠ P) := hne
  clear hP hR h4 h5 hf hne
  go_enter Tryd.func55, Tryd.ntmps55
  go_wp2_with fail
  refine hF.out.mono ?_
  rintro e w1 ⟨rfl, hb⟩
  have HB : Hid (Below w.heap.size w w1) := hb
  have hP1 := HP.out.below hb
  have hR1 := HR.out.below hb
  have p0 := hP1.cell (j := 0) rfl
  have p1 := hP1.cell (j := 1) rfl
  have p2 := hP1.cell (j := 2) rfl
  have q0 := acell hP1.lt p0
  have q1 := acell hP1.lt p1
  have q2 := acell hP1.lt p2
  have r4 := hR1.cell H4.out
  have r5 := hR1.cell H5.out
  have s4 := acell hR1.lt r4
  have s5 := acell hR1.lt r5
  have y0 := (hP1.alloc (.cells #[.int .i64 1, .int .i64 65536, .slice wa 0 wc] 92)).fz 0
  have y1 := (hP1.alloc (.cells #[.int .i64 1, .int .i64 65536, .slice wa 0 wc] 92)).fz 1
  have y2 := (hP1.alloc (.cells #[.int .i64 1, .int .i64 65536, .slice wa 0 wc] 92)).fz 2
  have y5 := (hR1.alloc (.cells #[.int .i64 1, .int .i64 65536, .slice wa 0 wc] 92)).fz 5
  have n0 : ¬ R = P := HN.out
  have n1 : ¬ P = R := fun e => HN.out e.symm
  have HP2 : Hid (Cl (w1.alloc (.cells #[.int .i64 1, .int .i64 65536, .slice wa 0 wc] 92)) P [.int .i64 1, .int .i64 65536, .slice wa 0 wc]) := hP1.alloc _
  have HR2 : Hid (Cl (w1.alloc (.cells #[.int .i64 1, .int .i64 65536, .slice wa 0 wc] 92)) R f) := hR1.alloc _
  clear hb hP1 hR1
  go_wp2_with fail
  have hP3 : Cl (((((w1.alloc (.cells #[.int .i64 1, .int .i64 65536, .slice wa 0 wc] 92)).setCell ⟨P, 0, none⟩ (.int .i64 0)).setCell ⟨P, 1, none⟩ (.int .i64 65536)).setCell ⟨P, 2, none⟩ (.slice none 0 0)).setCell ⟨R, 5, none⟩ (.int .i64 1)) P [.int .i64 0, .int .i64 65536, .slice none 0 0] := (((HP2.out.set (o := 0) (by simp) (.int .i64 0)).set (o := 1) (by simp) (.int .i64 65536)).set (o := 2) (by simp) (.slice none 0 0)).other n1
  have hR3 : Cl (((((w1.alloc (.cells #[.int .i64 1, .int .i64 65536, .slice wa 0 wc] 92)).setCell ⟨P, 0, none⟩ (.int .i64 0)).setCell ⟨P, 1, none⟩ (.int .i64 65536)).setCell ⟨P, 2, none⟩ (.slice none 0 0)).setCell ⟨R, 5, none⟩ (.int .i64 1)) R (f.set 5 (.int .i64 1)) := (((HR2.out.other n0).other n0).other n0).set (by have := HF.out; omega) _
  refine (tidy62 R P pa 65536 _ _ hP3 hR3 (by simp; exact HF.out) (by rw [List.getElem?_set_ne (by omega)]; exact H4.out) (by rw [List.getElem?_set_self (by have := HF.out; omega)]) HN.out).mono ?_
  rintro e w2 ⟨rfl, ho, hc⟩
  have HO : Hid (Onl (fun b => b = R ∨ b = P) w w2) := (((((Onl.of_below HB.out).alloc _).set (b := P) (.inr rfl)).set (b := P) (.inr rfl)).set (b := P) (.inr rfl) |>.set (b := R) (.inl rfl)).trans ho
  have HC : Hid (Cl w2 R ((f.set 4 (.slice (some ⟨P, 0, none⟩) 0 pa)).set 5 (.int .i64 0))) := by
    have e : ((f.set 5 (.int .i64 1)).set 4 (.slice (some ⟨P, 0, none⟩) 0 pa)).set 5 (.int .i64 0) = (f.set 4 (.slice (some ⟨P, 0, none⟩) 0 pa)).set 5 (.int .i64 0) := by
      rw [List.set_comm _ _ (by omega : 5 ≠ 4), List.set_set]
    rw [e] at hc
    exact hc
  clear ho hc hP3 hR3
  go_wp2
  go_ret
  exact ⟨rfl, HO.out, HC.out⟩
end Go.Proofs.YthkkoppnenfnfaaDoor
