/- A frame begins. The three instructions, done. -/
import Derived.Test.YtdppoblbenbafaaGreatDoorCB
namespace Go.Proofs.YtdppoblbenbafaaGreatDoor
section
open Go.RowKit Go.Shelf
theorem make0 (w : World) : (Instr.makeSlice 107 (.int .i64 0) (.int .i64 0)).run Tryz.prog w = .ok (.slice (some ⟨w.heap.size, 0, none⟩) 0 0) (w.alloc (.cells #[] 2)) := by kernel_rfl
theorem info92 : (Tryz.prog.info? 174).map (fun i => (i.zero, i.size, i.bytes)) = some (some (.agg #[.int .i64 0, .int .i64 0, .slice none 0 0]), 3, 40) := by kernel_rfl
theorem info92' : ∃ i, Tryz.prog.info? 174 = some i ∧ i.zero = some (.agg #[.int .i64 0, .int .i64 0, .slice none 0 0]) ∧ i.size = 3 ∧ i.bytes = 40 := by
  have h := info92
  cases hi : Tryz.prog.info? 174 with
  | none => rw [hi] at h; cases h
  | some i => rw [hi] at h; simp at h; exact ⟨i, rfl, h⟩
theorem nb2 (V : World) (o1 o2 : Obj) : ((V.alloc o1).alloc o2).heap[V.heap.size + 1]? = some o2 := by
  have h := (Go.MapKept.heap_alloc (V.alloc o1) o2).1
  rw [show (V.alloc o1).heap.size = V.heap.size + 1 by simp] at h
  exact h
set_option maxRecDepth 20000 in
set_option maxHeartbeats 2000000 in
theorem begin39 (R : Nat) (f : List Value) (w : World) (hR : Cl w R f) (hf : f.length = 13) (h4 : f[4]? = some (.slice none 0 0)) (h6 : f[6]? = some (.int .i64 65536)) : Calls Tryz.prog 97 #[.pointer (some ⟨R, 4, none⟩), .int .i64 1, .int .i64 0] w fun e w' => e = .returned (.int .i64 65536) ∧ ∃ P pa wa wc, Onl (fun b => b = R) w w' ∧ Cl w' R ((f.set 6 (.int .i64 65544)).set 4 (.slice (some ⟨P, 0, none⟩) 1 pa)) ∧ Cl w' P [.int .i64 1, .int .i64 65536, .slice wa 0 wc] ∧ w.heap.size ≤ P := by
  have HR : Hid (Cl (w.setCell ⟨R, 6, none⟩ (.int .i64 65544)) R (f.set 6 (.int .i64 65544))) := hR.set (by omega) _
  have r4 := hR.cell h4
  have r6 := hR.cell h6
  have z4 := hR.fz 4
  have z6 := hR.fz 6
  have HO : Hid (Onl (fun b => b = R) w (w.setCell ⟨R, 6, none⟩ (.int .i64 65544))) := (Onl.of_below (Below.refl _ _)).set (S := fun b => b = R) (b := R) rfl
  have HF : Hid (f.length = 13) := hf
  have H4 : Hid (f[4]? = some (.slice none 0 0)) := h4
  have hlt := hR.lt
  have mk := make0
  obtain ⟨i9, AN⟩ := info92'
  have AN : Hid (Tryz.prog.info? 174 = some i9 ∧ i9.zero = some (.agg #[.int .i64 0, .int .i64 0, .slice none 0 0]) ∧ i9.size = 3 ∧ i9.bytes = 40) := AN
  clear hR hf h4 h6
  go_enter Tryz.func97, Tryz.ntmps97
  go_wp2
  have v4 := HR.out.cell (j := 4) (v := .slice none 0 0) (by rw [List.getElem?_set_ne (by omega)]; exact H4.out)
  have y4 := HR.out.fz 4
  have vlt := HR.out.lt
  have vs : (w.setCell ⟨R, 6, none⟩ (.int .i64 65544)).heap.size = w.heap.size := by simp
  have HVS : Hid ((w.setCell ⟨R, 6, none⟩ (.int .i64 65544)).heap.size = w.heap.size) := vs
  clear r4 r6 z4 z6 vs hlt
  generalize w.setCell ⟨R, 6, none⟩ (.int .i64 65544) = V at *
  go_region_law
    (first | (refine step_append_lies _ rfl (.tmp 26) (.tmp 32) 98 rfl V.heap.size 174 i9 (.agg #[.int .i64 0, .int .i64 0, .slice none 0 0]) 3 40 Tryz.underlying98 AN.out.1 AN.out.2.1 AN.out.2.2.1 AN.out.2.2.2 rfl (by decide) (.slice none 0 0) 0 [] rfl (World.ownsRow_nil _ _ _ _) ⟨V.heap.size + 1, 0, none⟩ 1 1 [.int .i64 1, .int .i64 65536, .slice (some ⟨V.heap.size, 0, none⟩) 0 0] rfl rfl (World.news_of_block (cs := #[.int .i64 1, .int .i64 65536, .slice (some ⟨V.heap.size, 0, none⟩) 0 0]) (t := 174) (fr := (0, 0)) (by first | exact nb2 V _ _ | exact nb2 V.drew _ _)) (by intro u hu; simp at hu; rcases hu with rfl | rfl | rfl <;> rfl) (by decide) (by unfold maxLen; omega) (by omega) (by simp; omega) _ rfl ?_; intro g cap w3 hown hgrow hat hl3; have HB3 : Hid (Below V.heap.size V w3) := below_grown (Nat.le_refl _) (by first | exact ((Below.refl _ V).alloc (Nat.le_refl _) _).alloc (by simp) _ | exact (((Below.refl _ V).drew).alloc (Nat.le_refl _) _).alloc (by simp) _) hgrow (fun k e => by cases e); have HG : Hid (Cl w3 g [.int .i64 1, .int .i64 65536, .slice (some ⟨V.heap.size, 0, none⟩) 0 0] ∧ V.heap.size ≤ g) := Cl.own hown; have u4 := (HR.out.below HB3.out).cell (j := 4) (v := .slice none 0 0) (by rw [List.getElem?_set_ne (by omega)]; exact H4.out); have x4 := (HR.out.below HB3.out).fz 4; clear hown hgrow hat))
  all_goals (
    go_wp2
    go_ret
    refine ⟨rfl, g, cap, some ⟨V.heap.size, 0, none⟩, 0, ?_, ?_, ?_, ?_⟩
    · exact ((HO.out.trans (Onl.of_below HB3.out)).set (S := fun b => b = R) (b := R) rfl)
    · exact ((HR.out.below HB3.out).set (by have := HF.out; simp; omega) _)
    · exact (HG.out.1.other (fun e => by have := HG.out.2; omega))
    · have := HG.out.2; have := HVS.out; omega)
end
section
open Go.RowKit Go.Shelf
theorem set5 (y Q : Nat) (a b : Int) : ([.slice (some ⟨y, 0, none⟩) 1 1, .slice (some ⟨Q, 0, none⟩) 1 1, .int .i64 65536, .int .i64 0, .int .i64 0, .int .i64 a, .int .i64 (-1)] : List Value).set 5 (.int .i64 b) = [.slice (some ⟨y, 0, none⟩) 1 1, .slice (some ⟨Q, 0, none⟩) 1 1, .int .i64 65536, .int .i64 0, .int .i64 0, .int .i64 b, .int .i64 (-1)] := rfl
set_option maxRecDepth 20000 in
set_option maxHeartbeats 2000000 in
theorem do_const (R C Q ca x z y : Nat) (f : List Value) (w : World) (hC : Cl w C [.slice (some ⟨y, 0, none⟩) 1 1, .slice (some ⟨Q, 0, none⟩) 1 1, .int .i64 65536, .int .i64 0, .int .i64 0, .int .i64 0, .int .i64 (-1)]) (hQ : Cl w Q [.int .i64 0]) (hR : Cl w R f) (hf : f.length = 13) (h3 : f[3]? = some (.slice (some ⟨C, 0, none⟩) 1 ca)) (hI : Ib w x z) (hxC : x ≠ C) (hQC : Q ≠ C) : Calls Tryz.prog 72 #[.pointer (some ⟨R, 0, none⟩), .pointer (some ⟨x, 0, none⟩)] w fun e w' => e = .returned (.tuple #[]) ∧ Onl (fun b => b = C ∨ b = Q) w w' ∧ Cl w' C [.slice (some ⟨y, 0, none⟩) 1 1, .slice (some ⟨Q, 0, none⟩) 1 1, .int .i64 65536, .int .i64 0, .int .i64 0, .int .i64 1, .int .i64 (-1)] ∧ Cl w' Q [.int .i64 7] := by
  have hI40 : Hid (Calls Tryz.prog 98 #[.pointer (some ⟨R, 0, none⟩)] w fun e w' => e = .returned (.pointer (some ⟨C, 0, none⟩)) ∧ ∃ n, w' = w.drewN n) := innermost40 R C ca w (hR.cell h3)
  have HC : Hid (Cl w C [.slice (some ⟨y, 0, none⟩) 1 1, .slice (some ⟨Q, 0, none⟩) 1 1, .int .i64 65536, .int .i64 0, .int .i64 0, .int .i64 0, .int .i64 (-1)]) := hC
  have HQ : Hid (Cl w Q [.int .i64 0]) := hQ
  have HR : Hid (Cl w R f) := hR
  have HI : Hid (Ib w x z) := hI
  have HF : Hid (f.length = 13) := hf
  have H3 : Hid (f[3]? = some (.slice (some ⟨C, 0, none⟩) 1 ca)) := h3
  have HXC : Hid (x ≠ C) := hxC
  have HQC : Hid (Q ≠ C) := hQC
  clear hC hQ hR hf h3 hI hxC hQC
  go_enter Tryz.func72, Tryz.ntmps72
  go_wp2_with fail
  refine hI40.out.mono ?_
  rintro e w1 ⟨rfl, n1, hw1⟩
  have hb1 : Below w.heap.size w w1 := by rw [hw1]; exact below_drewN (Below.refl _ _) n1
  have HB1 : Hid (Below w.heap.size w w1) := hb1
  have hC1 := HC.out.below hb1
  have hI1 := HI.out.below hb1
  have k5 := hC1.cell (j := 5) rfl
  have z5 := hC1.fz 5
  have e1 : ¬ x = C := HXC.out
  have e2 : ¬ C = x := fun e => HXC.out e.symm
  have HC1 : Hid (Cl w1 C [.slice (some ⟨y, 0, none⟩) 1 1, .slice (some ⟨Q, 0, none⟩) 1 1, .int .i64 65536, .int .i64 0, .int .i64 0, .int .i64 0, .int .i64 (-1)]) := hC1
  have i0 := hI1.at_ 0 _ rfl
  have i1 := hI1.at_ 1 _ rfl
  have i4 := hI1.at_ 4 _ rfl
  have k1 := hC1.cell (j := 1) rfl
  have hQ1 := HQ.out.below hb1
  have HQ1 : Hid (Cl w1 Q [.int .i64 0]) := hQ1
  have q0 := hQ1.cell (j := 0) rfl
  have zq := hQ1.fz 0
  have e3 : ¬ Q = C := HQC.out
  have e4 : ¬ C = Q := fun e => HQC.out e.symm
  clear hw1 hb1 hC1 hI1 hQ1
  go_wp2
  go_region
  go_wp2
  go_returns
  refine ⟨rfl, ?_, ?_, ?_⟩
  · exact (((Onl.of_below (S := fun b => b = C ∨ b = Q) HB1.out).set (b := C) (.inl rfl)).set (b := Q) (.inr rfl)).trans (Onl.of_below (Below.refl _ _).drew)
  · exact ((HC1.out.set (o := 5) (by simp) (.int .i64 1)).other e4).drew
  · exact ((HQ1.out.other e3).set (o := 0) (by simp) (.int .i64 7)).drew
set_option maxRecDepth 20000 in
set_option maxHeartbeats 2000000 in
theorem do_call (R C Q ca x z y : Nat) (f : List Value) (w : World) (hC : Cl w C [.slice (some ⟨y, 0, none⟩) 1 1, .slice (some ⟨Q, 0, none⟩) 1 1, .int .i64 65536, .int .i64 0, .int .i64 0, .int .i64 1, .int .i64 (-1)]) (hQ : Cl w Q [.int .i64 7]) (hR : Cl w R f) (hf : f.length = 13) (h3 : f[3]? = some (.slice (some ⟨C, 0, none⟩) 1 ca)) (h11 : f[11]? = some (.slice none 0 0)) (hI : Ib w x z) (hxC : x ≠ C) (hQC : Q ≠ C) (hRC : R ≠ C) (hzC : z ≠ C) (hxR : x ≠ R) : Calls Tryz.prog 72 #[.pointer (some ⟨R, 0, none⟩), .pointer (some ⟨x, 9, none⟩)] w fun e w' => e = .returned (.tuple #[]) ∧ ∃ g cap, Onl (fun b => b = R ∨ b = C) w w' ∧ Cl w' C [.slice (some ⟨y, 0, none⟩) 1 1, .slice (some ⟨Q, 0, none⟩) 1 1, .int .i64 65536, .int .i64 0, .int .i64 0, .int .i64 2, .int .i64 (-1)] ∧ Cl w' R (f.set 11 (.slice (some ⟨g, 0, none⟩) 2 cap)) ∧ Cl w' g [.int .u8 55, .int .u8 10] ∧ w.heap.size ≤ g := by
  have hI40 : Hid (Calls Tryz.prog 98 #[.pointer (some ⟨R, 0, none⟩)] w fun e w' => e = .returned (.pointer (some ⟨C, 0, none⟩)) ∧ ∃ n, w' = w.drewN n) := innermost40 R C ca w (hR.cell h3)
  have HC : Hid (Cl w C [.slice (some ⟨y, 0, none⟩) 1 1, .slice (some ⟨Q, 0, none⟩) 1 1, .int .i64 65536, .int .i64 0, .int .i64 0, .int .i64 1, .int .i64 (-1)]) := hC
  have HQ : Hid (Cl w Q [.int .i64 7]) := hQ
  have HR : Hid (Cl w R f) := hR
  have HI : Hid (Ib w x z) := hI
  have HF : Hid (f.length = 13) := hf
  have H3 : Hid (f[3]? = some (.slice (some ⟨C, 0, none⟩) 1 ca)) := h3
  have HXC : Hid (x ≠ C) := hxC
  have HN : Hid (Q ≠ C ∧ R ≠ C ∧ z ≠ C ∧ x ≠ R) := ⟨hQC, hRC, hzC, hxR⟩
  have H11 : Hid (f[11]? = some (.slice none 0 0)) := h11
  clear hC hQ hR hf h3 hI hxC hQC hRC hzC hxR h11
  go_enter Tryz.func72, Tryz.ntmps72
  go_wp2_with fail
  refine hI40.out.mono ?_
  rintro e w1 ⟨rfl, n1, hw1⟩
  have hb1 : Below w.heap.size w w1 := by rw [hw1]; exact below_drewN (Below.refl _ _) n1
  have HB1 : Hid (Below w.heap.size w w1) := hb1
  have hC1 := HC.out.below hb1
  have hI1 := HI.out.below hb1
  have k5 := hC1.cell (j := 5) rfl
  have z5 := hC1.fz 5
  have e1 : ¬ x = C := HXC.out
  have e2 : ¬ C = x := fun e => HXC.out e.symm
  have HC1 : Hid (Cl w1 C [.slice (some ⟨y, 0, none⟩) 1 1, .slice (some ⟨Q, 0, none⟩) 1 1, .int .i64 65536, .int .i64 0, .int .i64 0, .int .i64 1, .int .i64 (-1)]) := hC1
  have i0 := hI1.at_ 9 _ rfl
  have HIS : Hid (Ib (w1.setCell ⟨C, 5, none⟩ (.int .i64 2)) x z) := ⟨fun j v hj => by rw [World.cell?_of_block ((grown_set w1 C 5 _).block x hI1.lx (fun e => HXC.out (by cases e; rfl)))]; exact hI1.at_ j v hj, by rw [World.cell?_of_block ((grown_set w1 C 5 _).block z hI1.lz (fun e => HN.out.2.2.1 (by cases e; rfl)))]; exact hI1.ar, by simp; exact hI1.lx, by simp; exact hI1.lz⟩
  have HRS : Hid (Cl (w1.setCell ⟨C, 5, none⟩ (.int .i64 2)) R f) := (HR.out.below hb1).other HN.out.2.1
  have HQS : Hid (Cl (w1.setCell ⟨C, 5, none⟩ (.int .i64 2)) Q [.int .i64 7]) := (HQ.out.below hb1).other HN.out.1
  have HCS : Hid (Cl (w1.setCell ⟨C, 5, none⟩ (.int .i64 2)) C [.slice (some ⟨y, 0, none⟩) 1 1, .slice (some ⟨Q, 0, none⟩) 1 1, .int .i64 65536, .int .i64 0, .int .i64 0, .int .i64 2, .int .i64 (-1)]) := hC1.set (o := 5) (by simp) (.int .i64 2)
  clear hw1 hb1 hC1 hI1
  go_wp2_with fail
  refine (call43 R C Q ca x z y 2 f _ HCS.out HQS.out HRS.out HF.out H3.out H11.out HIS.out HN.out.2.2.2).mono ?_
  rintro e w2 ⟨rfl, g, cap, ho, hr, hg, hge⟩
  have HE : Hid (Onl (fun b => b = R ∨ b = C) w w2 ∧ Cl w2 C [.slice (some ⟨y, 0, none⟩) 1 1, .slice (some ⟨Q, 0, none⟩) 1 1, .int .i64 65536, .int .i64 0, .int .i64 0, .int .i64 2, .int .i64 (-1)] ∧ Cl w2 R (f.set 11 (.slice (some ⟨g, 0, none⟩) 2 cap)) ∧ Cl w2 g [.int .u8 55, .int .u8 10] ∧ w.heap.size ≤ g) := ⟨((Onl.of_below (S := fun b => b = R ∨ b = C) HB1.out).set (b := C) (.inr rfl)).trans (ho.mono fun b e => .inl e), HCS.out.onl ho (fun e => HN.out.2.1 e.symm), hr, hg, by have := HB1.out.size; simp at hge; omega⟩
  clear ho hr hg hge
  go_wp2
  go_returns
  exact ⟨rfl, g, cap, HE.out⟩
set_option maxRecDepth 20000 in
set_option maxHeartbeats 2000000 in
theorem do_ret (R C Q P ca pa x z y : Nat) (wa : Option Addr) (wc : Nat) (f : List Value) (w : World) (hC : Cl w C [.slice (some ⟨y, 0, none⟩) 1 1, .slice (some ⟨Q, 0, none⟩) 1 1, .int .i64 65536, .int .i64 0, .int .i64 0, .int .i64 2, .int .i64 (-1)]) (hQ : Cl w Q [.int .i64 7]) (hR : Cl w R f) (hf : f.length = 13) (h3 : f[3]? = some (.slice (some ⟨C, 0, none⟩) 1 ca)) (h4 : f[4]? = some (.slice (some ⟨P, 0, none⟩) 1 pa)) (h5 : f[5]? = some (.int .i64 0)) (hP : Cl w P [.int .i64 1, .int .i64 65536, .slice wa 0 wc]) (hI : Ib w x z) (hxC : x ≠ C) (hRC : R ≠ C) (hPC : P ≠ C) (hRP : R ≠ P) : Calls Tryz.prog 72 #[.pointer (some ⟨R, 0, none⟩), .pointer (some ⟨x, 18, none⟩)] w fun e w' => e = .returned (.tuple #[]) ∧ Onl (fun b => b = R ∨ b = C ∨ b = P) w w' ∧ Cl w' R (((((f.set 4 (.slice (some ⟨P, 0, none⟩) 0 pa)).set 5 (.int .i64 0)).set 3 (.slice (some ⟨C, 0, none⟩) 0 ca)).set 9 (.int .i64 1)).set 10 (.int .i64 0)) := by
  have hI40 : Hid (Calls Tryz.prog 98 #[.pointer (some ⟨R, 0, none⟩)] w fun e w' => e = .returned (.pointer (some ⟨C, 0, none⟩)) ∧ ∃ n, w' = w.drewN n) := innermost40 R C ca w (hR.cell h3)
  have HC : Hid (Cl w C [.slice (some ⟨y, 0, none⟩) 1 1, .slice (some ⟨Q, 0, none⟩) 1 1, .int .i64 65536, .int .i64 0, .int .i64 0, .int .i64 2, .int .i64 (-1)]) := hC
  have HQ : Hid (Cl w Q [.int .i64 7]) := hQ
  have HR : Hid (Cl w R f) := hR
  have HI : Hid (Ib w x z) := hI
  have HF : Hid (f.length = 13) := hf
  have H3 : Hid (f[3]? = some (.slice (some ⟨C, 0, none⟩) 1 ca)) := h3
  have HXC : Hid (x ≠ C) := hxC
  have HN : Hid (R ≠ C ∧ P ≠ C ∧ R ≠ P) := ⟨hRC, hPC, hRP⟩
  have H4 : Hid (f[4]? = some (.slice (some ⟨P, 0, none⟩) 1 pa)) := h4
  have H5 : Hid (f[5]? = some (.int .i64 0)) := h5
  have HP : Hid (Cl w P [.int .i64 1, .int .i64 65536, .slice wa 0 wc]) := hP
  clear hC hQ hR hf h3 hI hxC hRC hPC hRP h4 h5 hP
  go_enter Tryz.func72, Tryz.ntmps72
  go_wp2_with fail
  refine hI40.out.mono ?_
  rintro e w1 ⟨rfl, n1, hw1⟩
  have hb1 : Below w.heap.size w w1 := by rw [hw1]; exact below_drewN (Below.refl _ _) n1
  have HB1 : Hid (Below w.heap.size w w1) := hb1
  have hC1 := HC.out.below hb1
  have hI1 := HI.out.below hb1
  have k5 := hC1.cell (j := 5) rfl
  have z5 := hC1.fz 5
  have e1 : ¬ x = C := HXC.out
  have e2 : ¬ C = x := fun e => HXC.out e.symm
  have HC1 : Hid (Cl w1 C [.slice (some ⟨y, 0, none⟩) 1 1, .slice (some ⟨Q, 0, none⟩) 1 1, .int .i64 65536, .int .i64 0, .int .i64 0, .int .i64 2, .int .i64 (-1)]) := hC1
  have i0 := hI1.at_ 18 _ rfl
  have i2 := hI1.at_ 20 _ rfl
  have HRS : Hid (Cl (w1.setCell ⟨C, 5, none⟩ (.int .i64 3)) R f) := (HR.out.below hb1).other HN.out.1
  have HPS : Hid (Cl (w1.setCell ⟨C, 5, none⟩ (.int .i64 3)) P [.int .i64 1, .int .i64 65536, .slice wa 0 wc]) := (HP.out.below hb1).other HN.out.2.1
  have HCS : Hid (Cl (w1.setCell ⟨C, 5, none⟩ (.int .i64 3)) C [.slice (some ⟨y, 0, none⟩) 1 1, .slice (some ⟨Q, 0, none⟩) 1 1, .int .i64 65536, .int .i64 0, .int .i64 0, .int .i64 3, .int .i64 (-1)]) := hC1.set (o := 5) (by simp) (.int .i64 3)
  clear hw1 hb1 hC1 hI1
  go_wp2_with (first | (go_at_call 103; refine (value_none C _).mono ?_; rintro e w' ⟨rfl, rfl⟩) | (go_at_call 102; refine (back44 R C P pa ca wa wc y Q 3 f _ HCS.out HPS.out HRS.out HF.out H3.out H4.out H5.out HN.out.2.2).mono ?_; rintro e w2 ⟨rfl, ho, hr⟩))
  go_returns
  exact ⟨rfl, ((Onl.of_below (S := fun b => b = R ∨ b = C ∨ b = P) HB1.out).set (b := C) (.inr (.inl rfl))).trans (ho.mono fun b e => e.imp id (fun e => .inr e)), hr⟩
end
end Go.Proofs.YtdppoblbenbafaaGreatDoor
