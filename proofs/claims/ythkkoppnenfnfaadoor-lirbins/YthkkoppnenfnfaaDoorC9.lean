/- A frame begins. -/
import Derived.Test.YthkkoppnenfnfaaDoorC4
namespace Go.Proofs.YthkkoppnenfnfaaDoor
open Go.RowKit Go.Shelf
theorem make0 (w : World) : (Instr.makeSlice 76 (.int .i64 0) (.int .i64 0)).run Tryd.prog w = .ok (.slice (some ⟨w.heap.size, 0, none⟩) 0 0) (w.alloc (.cells #[] 2)) := by kernel_rfl
theorem info92 : (Tryd.prog.info? 92).map (fun i => (i.zero, i.size, i.bytes)) = some (some (.agg #[.int .i64 0, .int .i64 0, .slice none 0 0]), 3, 40) := by kernel_rfl
theorem info92' : ∃ i, Tryd.prog.info? 92 = some i ∧ i.zero = some (.agg #[.int .i64 0, .int .i64 0, .slice none 0 0]) ∧ i.size = 3 ∧ i.bytes = 40 := by
  have h := info92
  cases hi : Tryd.prog.info? 92 with
  | none => rw [hi] at h; cases h
  | some i => rw [hi] at h; simp at h; exact ⟨i, rfl, h⟩
theorem nb2 (V : World) (o1 o2 : Obj) : ((V.alloc o1).alloc o2).heap[V.heap.size + 1]? = some o2 := by
  have h := (Go.MapKept.heap_alloc (V.alloc o1) o2).1
  rw [show (V.alloc o1).heap.size = V.heap.size + 1 by simp] at h
  exact h
set_option maxRecDepth 20000 in
set_option maxHeartbeats 2000000 in
theorem begin39 (R : Nat) (f : List Value) (w : World) (hR : Cl w R f) (hf : f.length = 13) (h4 : f[4]? = some (.slice none 0 0)) (h6 : f[6]? = some (.int .i64 65536)) : Calls Tryd.prog 39 #[.pointer (some ⟨R, 4, none⟩), .int .i64 1, .int .i64 0] w fun e w' => e = .returned (.int .i64 65536) ∧ ∃ P pa wa wc, Onl (fun b => b = R) w w' ∧ Cl w' R ((f.set 6 (.int .i64 65544)).set 4 (.slice (some ⟨P, 0, none⟩) 1 pa)) ∧ Cl w' P [.int .i64 1, .int .i64 65536, .slice wa 0 wc] ∧ w.heap.size ≤ P := by
  have HR : Hid (Cl (w.setCell ⟨R, 6, none⟩ (.int .i64 65544)) R (f.set 6 (.int .i64 65544))) := hR.set (by omega) _
  have r4 := hR.cell h4
  have r6 := hR.cell h6
  have z4 := hR.fz 4
  have z6 := hR.fz 6
  have HO : Hid (Onl (fun b => b = R) w (w.setCell ⟨R, 6, none⟩ (.int .i64 65544))) := (Onl.of_below (Below.refl _ _)).set (S := fun b => b = R) (b := R) rfl
  have HF : Hid (f.length = 13) := hf
  have H4 : Hid (f[4]? = some (.slice none 0 0)) := h4
  have hlt := hR.lt
  have mk := make0
  obtain ⟨i9, AN⟩ := info92'
  have AN : Hid (Tryd.prog.info? 92 = some i9 ∧ i9.zero = some (.agg #[.int .i64 0, .int .i64 0, .slice none 0 0]) ∧ i9.size = 3 ∧ i9.bytes = 40) := AN
  clear hR hf h4 h6
  go_enter Tryd.func39, Tryd.ntmps39
  go_wp2
  have v4 := HR.out.cell (j := 4) (v := .slice none 0 0) (by rw [List.getElem?_set_ne (by omega)]; exact H4.out)
  have y4 := HR.out.fz 4
  have vlt := HR.out.lt
  have vs : (w.setCell ⟨R, 6, none⟩ (.int .i64 65544)).heap.size = w.heap.size := by simp
  have HVS : Hid ((w.setCell ⟨R, 6, none⟩ (.int .i64 65544)).heap.size = w.heap.size) := vs
  clear r4 r6 z4 z6 vs hlt
  generalize w.setCell ⟨R, 6, none⟩ (.int .i64 65544) = V at *
  go_region_law
    (first | (refine step_append_lies _ rfl (.tmp 26) (.tmp 32) 61 rfl V.heap.size 92 i9 (.agg #[.int .i64 0, .int .i64 0, .slice none 0 0]) 3 40 Tryd.underlying61 AN.out.1 AN.out.2.1 AN.out.2.2.1 AN.out.2.2.2 rfl (by decide) (.slice none 0 0) 0 [] rfl (World.ownsRow_nil _ _ _ _) ⟨V.heap.size + 1, 0, none⟩ 1 1 [.int .i64 1, .int .i64 65536, .slice (some ⟨V.heap.size, 0, none⟩) 0 0] rfl rfl (World.news_of_block (cs := #[.int .i64 1, .int .i64 65536, .slice (some ⟨V.heap.size, 0, none⟩) 0 0]) (t := 92) (fr := (0, 0)) (by first | exact nb2 V _ _ | exact nb2 V.drew _ _)) (by intro u hu; simp at hu; rcases hu with rfl | rfl | rfl <;> rfl) (by decide) (by unfold maxLen; omega) (by omega) (by simp; omega) _ rfl ?_; intro g cap w3 hown hgrow hat hl3; have HB3 : Hid (Below V.heap.size V w3) := below_grown (Nat.le_refl _) (by first | exact ((Below.refl _ V).alloc (Nat.le_refl _) _).alloc (by simp) _ | exact (((Below.refl _ V).drew).alloc (Nat.le_refl _) _).alloc (by simp) _) hgrow (fun k e => by cases e); have HG : Hid (Cl w3 g [.int .i64 1, .int .i64 65536, .slice (some ⟨V.heap.size, 0, none⟩) 0 0] ∧ V.heap.size ≤ g) := Cl.own hown; have u4 := (HR.out.below HB3.out).cell (j := 4) (v := .slice none 0 0) (by rw [List.getElem?_set_ne (by omega)]; exact H4.out); have x4 := (HR.out.below HB3.out).fz 4; clear hown hgrow hat))
  all_goals (
    go_wp2
    go_ret
    refine ⟨rfl, g, cap, some ⟨V.heap.size, 0, none⟩, 0, ?_, ?_, ?_, ?_⟩
    · exact ((HO.out.trans (Onl.of_below HB3.out)).set (S := fun b => b = R) (b := R) rfl)
    · exact ((HR.out.below HB3.out).set (by have := HF.out; simp; omega) _)
    · exact (HG.out.1.other (fun e => by have := HG.out.2; omega))
    · have := HG.out.2; have := HVS.out; omega)
end Go.Proofs.YthkkoppnenfnfaaDoor
