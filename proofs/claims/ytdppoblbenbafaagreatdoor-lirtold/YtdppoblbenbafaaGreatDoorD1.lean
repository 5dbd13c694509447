/- The run enters main. -/
import Derived.Test.YtdppoblbenbafaaGreatDoorCC
import Derived.Test.YtdppoblbenbafaaGreatDoorCB
namespace Go.Proofs.YtdppoblbenbafaaGreatDoor
open Go.RowKit Go.Shelf
theorem info79 : (Tryz.prog.info? 138).map (fun i => (i.zero, i.size, i.bytes)) = some (some (.agg #[.slice none 0 0, .slice none 0 0, .int .i64 0, .int .i64 0, .int .i64 0, .int .i64 0, .int .i64 0]), 7, 88) := by kernel_rfl
theorem info79' : ∃ i, Tryz.prog.info? 138 = some i ∧ i.zero = some (.agg #[.slice none 0 0, .slice none 0 0, .int .i64 0, .int .i64 0, .int .i64 0, .int .i64 0, .int .i64 0]) ∧ i.size = 7 ∧ i.bytes = 88 := by
  have h := info79
  cases hi : Tryz.prog.info? 138 with
  | none => rw [hi] at h; cases h
  | some i => rw [hi] at h; simp at h; exact ⟨i, rfl, h⟩
theorem nb1 (V : World) (o1 : Obj) : (V.alloc o1).heap[V.heap.size]? = some o1 := (Go.MapKept.heap_alloc V o1).1
theorem copy0 (a : Addr) (w : World) : (Builtin.copy_ #[107, 107] 3 #[.slice (some a) 1 1, .slice none 0 0]).run Tryz.prog w = .ok (.int .i64 0) w := by kernel_rfl
set_option maxRecDepth 20000 in
set_option maxHeartbeats 2000000 in
theorem enter33 (R p y x z : Nat) (f : List Value) (w : World) (hR : Cl w R f) (hf : f.length = 13) (h0 : f[0]? = some (.slice (some ⟨p, 0, none⟩) 1 1)) (h3 : f[3]? = some (.slice none 0 0)) (h4 : f[4]? = some (.slice none 0 0)) (h6 : f[6]? = some (.int .i64 65536)) (hP : Pr w p y x z) : Calls Tryz.prog 68 #[.pointer (some ⟨R, 0, none⟩), .int .i64 0, .slice none 0 0, .int .i64 (-1)] w fun e w' => e = .returned (.tuple #[]) ∧ ∃ C ca Q P pa wa wc, Onl (fun b => b = R) w w' ∧ Cl w' R (((f.set 6 (.int .i64 65544)).set 4 (.slice (some ⟨P, 0, none⟩) 1 pa)).set 3 (.slice (some ⟨C, 0, none⟩) 1 ca)) ∧ Cl w' C [.slice (some ⟨y, 0, none⟩) 1 1, .slice (some ⟨Q, 0, none⟩) 1 1, .int .i64 65536, .int .i64 0, .int .i64 0, .int .i64 0, .int .i64 (-1)] ∧ Cl w' Q [.int .i64 0] ∧ Cl w' P [.int .i64 1, .int .i64 65536, .slice wa 0 wc] ∧ w.heap.size ≤ Q ∧ Q < P ∧ P < C := by
  have r0 := hR.cell h0
  have HR : Hid (Cl w R f) := hR
  have HF : Hid (f.length = 13) := hf
  have H3 : Hid (f[3]? = some (.slice none 0 0)) := h3
  have H4 : Hid (f[4]? = some (.slice none 0 0)) := h4
  have H6 : Hid (f[6]? = some (.int .i64 65536)) := h6
  obtain ⟨p0, p1, p2, p3, p4, _, _, _, _⟩ := hP
  have mk := make1
  have cp := copy0
  obtain ⟨i9, AN0⟩ := info79'
  have AN : Hid (Tryz.prog.info? 138 = some i9 ∧ i9.zero = some (.agg #[.slice none 0 0, .slice none 0 0, .int .i64 0, .int .i64 0, .int .i64 0, .int .i64 0, .int .i64 0]) ∧ i9.size = 7 ∧ i9.bytes = 88) := AN0
  clear hR hf h0 h3 h4 h6 AN0
  go_enter Tryz.func68, Tryz.ntmps68
  go_wp2
  have HB : Hid (Below w.heap.size w ((w.alloc (.cells #[.string ⟨#[109, 97, 105, 110]⟩, .int .i64 0, .int .i64 1, .int .i64 0, .slice (some ⟨y, 0, none⟩) 1 1] 27)).alloc (.cells #[.int .i64 0] 2))) := ((Below.refl _ _).alloc (Nat.le_refl _) _).alloc (by simp) _
  have HX : Hid (Cl ((w.alloc (.cells #[.string ⟨#[109, 97, 105, 110]⟩, .int .i64 0, .int .i64 1, .int .i64 0, .slice (some ⟨y, 0, none⟩) 1 1] 27)).alloc (.cells #[.int .i64 0] 2)) w.heap.size [.string ⟨#[109, 97, 105, 110]⟩, .int .i64 0, .int .i64 1, .int .i64 0, .slice (some ⟨y, 0, none⟩) 1 1]) := (Cl.new w [.string ⟨#[109, 97, 105, 110]⟩, .int .i64 0, .int .i64 1, .int .i64 0, .slice (some ⟨y, 0, none⟩) 1 1] 27).alloc _
  have HQ : Hid (Cl ((w.alloc (.cells #[.string ⟨#[109, 97, 105, 110]⟩, .int .i64 0, .int .i64 1, .int .i64 0, .slice (some ⟨y, 0, none⟩) 1 1] 27)).alloc (.cells #[.int .i64 0] 2)) (w.heap.size + 1) [.int .i64 0]) := by
    have t := Cl.new (w.alloc (.cells #[.string ⟨#[109, 97, 105, 110]⟩, .int .i64 0, .int .i64 1, .int .i64 0, .slice (some ⟨y, 0, none⟩) 1 1] 27)) [.int .i64 0] 2
    rw [show (w.alloc (.cells #[.string ⟨#[109, 97, 105, 110]⟩, .int .i64 0, .int .i64 1, .int .i64 0, .slice (some ⟨y, 0, none⟩) 1 1] 27)).heap.size = w.heap.size + 1 by simp] at t
    exact t
  have HS : Hid (((w.alloc (.cells #[.string ⟨#[109, 97, 105, 110]⟩, .int .i64 0, .int .i64 1, .int .i64 0, .slice (some ⟨y, 0, none⟩) 1 1] 27)).alloc (.cells #[.int .i64 0] 2)).heap.size = w.heap.size + 2) := by show _ = _; simp
  generalize (w.alloc (.cells #[.string ⟨#[109, 97, 105, 110]⟩, .int .i64 0, .int .i64 1, .int .i64 0, .slice (some ⟨y, 0, none⟩) 1 1] 27)).alloc (.cells #[.int .i64 0] 2) = V at *
  have x3 := HX.out.cell (j := 3) rfl
  have HBg : Hid (∀ W, Below V.heap.size V W → Calls Tryz.prog 97 #[.pointer (some ⟨R, 4, none⟩), .int .i64 1, .int .i64 0] W fun e w' => e = .returned (.int .i64 65536) ∧ ∃ P pa wa wc, Onl (fun b => b = R) V w' ∧ Cl w' R ((f.set 6 (.int .i64 65544)).set 4 (.slice (some ⟨P, 0, none⟩) 1 pa)) ∧ Cl w' P [.int .i64 1, .int .i64 65536, .slice wa 0 wc] ∧ V.heap.size ≤ P) := fun W hW => (begin39 R f W ((HR.out.below HB.out).below hW) HF.out H4.out H6.out).mono fun e w' ⟨h1, P, pa, wa, wc, h2, h3, h4, h5⟩ => ⟨h1, P, pa, wa, wc, (Onl.of_below hW).trans h2, h3, h4, Nat.le_trans hW.size h5⟩
  have HRx : Hid (R ≠ w.heap.size ∧ R ≠ w.heap.size + 1) := by have := HR.out.lt; exact ⟨by omega, by omega⟩
  clear r0 p0 p1 p2 p3 p4 mk cp
  go_region_with (first | (go_at_call 97; refine (HBg.out _ (by first | exact (Below.refl _ _).drew | exact (Below.refl _ _))).mono ?_; rintro e w2 ⟨rfl, P, pa, wa, wc, ho, hr, hp, hge⟩; have HO2 : Hid (Onl (fun b => b = R) V w2) := ho; have HR2 : Hid (Cl w2 R ((f.set 6 (.int .i64 65544)).set 4 (.slice (some ⟨P, 0, none⟩) 1 pa))) := hr; have HP2 : Hid (Cl w2 P [.int .i64 1, .int .i64 65536, .slice wa 0 wc] ∧ V.heap.size ≤ P) := ⟨hp, hge⟩; clear ho hr hp hge))
  all_goals (
    have hX2 := HX.out.onl HO2.out (fun e => HRx.out.1 e.symm)
    have u3 := HR2.out.cell (j := 3) (v := .slice none 0 0) (by rw [List.getElem?_set_ne (by omega), List.getElem?_set_ne (by omega)]; exact H3.out)
    have u3' := HR2.out.fz 3
    have u3a := acell HR2.out.lt u3
    have u3b := acell (W := w2.drew) HR2.out.lt u3
    have y4 := hX2.cell (j := 4) rfl
    have y3 := hX2.cell (j := 3) rfl
    have HX2 : Hid (Cl w2 w.heap.size [.string ⟨#[109, 97, 105, 110]⟩, .int .i64 0, .int .i64 1, .int .i64 0, .slice (some ⟨y, 0, none⟩) 1 1]) := hX2
    clear hX2
    go_wp2
    go_region_law
      (first | (refine step_append_lies _ rfl (.tmp 34) (.tmp 43) 97 rfl w2.heap.size 138 i9 (.agg #[.slice none 0 0, .slice none 0 0, .int .i64 0, .int .i64 0, .int .i64 0, .int .i64 0, .int .i64 0]) 7 88 Tryz.underlying97 AN.out.1 AN.out.2.1 AN.out.2.2.1 AN.out.2.2.2 rfl (by decide) (.slice none 0 0) 0 [] rfl (World.ownsRow_nil _ _ _ _) ⟨w2.heap.size, 0, none⟩ 1 1 [.slice (some ⟨y, 0, none⟩) 1 1, .slice (some ⟨w.heap.size + 1, 0, none⟩) 1 1, .int .i64 65536, .int .i64 0, .int .i64 0, .int .i64 0, .int .i64 (-1)] rfl rfl (World.news_of_block (cs := #[.slice (some ⟨y, 0, none⟩) 1 1, .slice (some ⟨w.heap.size + 1, 0, none⟩) 1 1, .int .i64 65536, .int .i64 0, .int .i64 0, .int .i64 0, .int .i64 (-1)]) (t := 138) (fr := (0, 0)) (by first | exact nb1 w2 _ | exact nb1 w2.drew _)) (by intro u hu; simp at hu; rcases hu with rfl | rfl | rfl | rfl | rfl <;> rfl) (by decide) (by unfold maxLen; omega) (by omega) (by simp) _ rfl ?_; intro g cap w3 hown hgrow hat hl3; have HB3 : Hid (Below w2.heap.size w2 w3) := below_grown (Nat.le_refl _) (by first | exact (Below.refl _ w2).alloc (Nat.le_refl _) _ | exact ((Below.refl _ w2).drew).alloc (Nat.le_refl _) _) hgrow (fun k e => by cases e); have HG : Hid (Cl w3 g [.slice (some ⟨y, 0, none⟩) 1 1, .slice (some ⟨w.heap.size + 1, 0, none⟩) 1 1, .int .i64 65536, .int .i64 0, .int .i64 0, .int .i64 0, .int .i64 (-1)] ∧ w2.heap.size ≤ g) := Cl.own hown; have t3 := (HR2.out.below HB3.out).cell (j := 3) (v := .slice none 0 0) (by rw [List.getElem?_set_ne (by omega), List.getElem?_set_ne (by omega)]; exact H3.out); have t3' := (HR2.out.below HB3.out).fz 3; clear hown hgrow hat))
    all_goals (
      go_wp2
      go_returns
      have hRl := HR.out.lt
      have hPl := HP2.out.1.lt
      have hVs := HS.out
      have hPg := HP2.out.2
      have hgl := HG.out.2
      refine ⟨rfl, g, cap, w.heap.size + 1, P, pa, wa, wc, ?_, ?_, ?_, ?_, ?_, by omega, by omega, by omega⟩
      · exact (((Onl.of_below HB.out).trans HO2.out).trans (Onl.of_below HB3.out)).set (S := fun b => b = R) (b := R) rfl
      · exact (HR2.out.below HB3.out).set (by have := HF.out; simp; omega) _
      · exact HG.out.1.other (fun e => by have := HR2.out.lt; omega)
      · exact ((HQ.out.onl HO2.out (fun e => HRx.out.2 e.symm)).below HB3.out).other (fun e => HRx.out.2 e.symm)
      · exact (HP2.out.1.below HB3.out).other (fun e => by omega)))
end Go.Proofs.YtdppoblbenbafaaGreatDoor
