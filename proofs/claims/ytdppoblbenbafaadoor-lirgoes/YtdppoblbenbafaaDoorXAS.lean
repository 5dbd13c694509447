/- The run enters main. A call begins, in whatever run. One step: memory is asked for; a function is called. -/
import Derived.Test.YtdppoblbenbafaaDoorXAI
import Derived.Test.YtdppoblbenbafaaDoorXAQ
import Derived.Test.YtdppoblbenbafaaDoorXAR
namespace Go.Proofs.YtdppoblbenbafaaDoor
section
open Go.RowKit Go.Shelf
theorem info79 : (Tryd.prog.info? 81).map (fun i => (i.zero, i.size, i.bytes)) = some (some (.agg #[.slice none 0 0, .slice none 0 0, .int .i64 0, .int .i64 0, .int .i64 0, .int .i64 0, .int .i64 0]), 7, 88) := by kernel_rfl
theorem info79' : ∃ i, Tryd.prog.info? 81 = some i ∧ i.zero = some (.agg #[.slice none 0 0, .slice none 0 0, .int .i64 0, .int .i64 0, .int .i64 0, .int .i64 0, .int .i64 0]) ∧ i.size = 7 ∧ i.bytes = 88 := by
  have h := info79
  cases hi : Tryd.prog.info? 81 with
  | none => rw [hi] at h; cases h
  | some i => rw [hi] at h; simp at h; exact ⟨i, rfl, h⟩
theorem nb1 (V : World) (o1 : Obj) : (V.alloc o1).heap[V.heap.size]? = some o1 := (Go.MapKept.heap_alloc V o1).1
theorem copy0 (a : Addr) (w : World) : (Builtin.copy_ #[78, 78] 3 #[.slice (some a) 1 1, .slice none 0 0]).run Tryd.prog w = .ok (.int .i64 0) w := by kernel_rfl
set_option maxRecDepth 20000 in
set_option maxHeartbeats 2000000 in
theorem enter33 (R p y x z : Nat) (f : List Value) (w : World) (hR : Cl w R f) (hf : f.length = 13) (h0 : f[0]? = some (.slice (some ⟨p, 0, none⟩) 1 1)) (h3 : f[3]? = some (.slice none 0 0)) (h4 : f[4]? = some (.slice none 0 0)) (h6 : f[6]? = some (.int .i64 65536)) (hP : Pr w p y x z) : Calls Tryd.prog 18 #[.pointer (some ⟨R, 0, none⟩), .int .i64 0, .slice none 0 0, .int .i64 (-1)] w fun e w' => e = .returned (.tuple #[]) ∧ ∃ C ca Q P pa wa wc, Onl (fun b => b = R) w w' ∧ Cl w' R (((f.set 6 (.int .i64 65544)).set 4 (.slice (some ⟨P, 0, none⟩) 1 pa)).set 3 (.slice (some ⟨C, 0, none⟩) 1 ca)) ∧ Cl w' C [.slice (some ⟨y, 0, none⟩) 1 1, .slice (some ⟨Q, 0, none⟩) 1 1, .int .i64 65536, .int .i64 0, .int .i64 0, .int .i64 0, .int .i64 (-1)] ∧ Cl w' Q [.int .i64 0] ∧ Cl w' P [.int .i64 1, .int .i64 65536, .slice wa 0 wc] ∧ w.heap.size ≤ Q ∧ Q < P ∧ P < C := by
  have r0 := hR.cell h0
  have HR : Hid (Cl w R f) := hR
  have HF : Hid (f.length = 13) := hf
  have H3 : Hid (f[3]? = some (.slice none 0 0)) := h3
  have H4 : Hid (f[4]? = some (.slice none 0 0)) := h4
  have H6 : Hid (f[6]? = some (.int .i64 65536)) := h6
  obtain ⟨p0, p1, p2, p3, p4, _, _, _, _⟩ := hP
  have mk := make1
  have cp := copy0
  obtain ⟨i9, AN0⟩ := info79'
  have AN : Hid (Tryd.prog.info? 81 = some i9 ∧ i9.zero = some (.agg #[.slice none 0 0, .slice none 0 0, .int .i64 0, .int .i64 0, .int .i64 0, .int .i64 0, .int .i64 0]) ∧ i9.size = 7 ∧ i9.bytes = 88) := AN0
  clear hR hf h0 h3 h4 h6 AN0
  go_enter Tryd.func18, Tryd.ntmps18
  go_wp2
  have HB : Hid (Below w.heap.size w ((w.alloc (.cells #[.string ⟨#[109, 97, 105, 110]⟩, .int .i64 0, .int .i64 1, .int .i64 0, .slice (some ⟨y, 0, none⟩) 1 1] 43)).alloc (.cells #[.int .i64 0] 2))) := ((Below.refl _ _).alloc (Nat.le_refl _) _).alloc (by simp) _
  have HX : Hid (Cl ((w.alloc (.cells #[.string ⟨#[109, 97, 105, 110]⟩, .int .i64 0, .int .i64 1, .int .i64 0, .slice (some ⟨y, 0, none⟩) 1 1] 43)).alloc (.cells #[.int .i64 0] 2)) w.heap.size [.string ⟨#[109, 97, 105, 110]⟩, .int .i64 0, .int .i64 1, .int .i64 0, .slice (some ⟨y, 0, none⟩) 1 1]) := (Cl.new w [.string ⟨#[109, 97, 105, 110]⟩, .int .i64 0, .int .i64 1, .int .i64 0, .slice (some ⟨y, 0, none⟩) 1 1] 43).alloc _
  have HQ : Hid (Cl ((w.alloc (.cells #[.string ⟨#[109, 97, 105, 110]⟩, .int .i64 0, .int .i64 1, .int .i64 0, .slice (some ⟨y, 0, none⟩) 1 1] 43)).alloc (.cells #[.int .i64 0] 2)) (w.heap.size + 1) [.int .i64 0]) := by
    have t := Cl.new (w.alloc (.cells #[.string ⟨#[109, 97, 105, 110]⟩, .int .i64 0, .int .i64 1, .int .i64 0, .slice (some ⟨y, 0, none⟩) 1 1] 43)) [.int .i64 0] 2
    rw [show (w.alloc (.cells #[.string ⟨#[109, 97, 105, 110]⟩, .int .i64 0, .int .i64 1, .int .i64 0, .slice (some ⟨y, 0, none⟩) 1 1] 43)).heap.size = w.heap.size + 1 by simp] at t
    exact t
  have HS : Hid (((w.alloc (.cells #[.string ⟨#[109, 97, 105, 110]⟩, .int .i64 0, .int .i64 1, .int .i64 0, .slice (some ⟨y, 0, none⟩) 1 1] 43)).alloc (.cells #[.int .i64 0] 2)).heap.size = w.heap.size + 2) := by show _ = _; simp
  generalize (w.alloc (.cells #[.string ⟨#[109, 97, 105, 110]⟩, .int .i64 0, .int .i64 1, .int .i64 0, .slice (some ⟨y, 0, none⟩) 1 1] 43)).alloc (.cells #[.int .i64 0] 2) = V at *
  have x3 := HX.out.cell (j := 3) rfl
  have HBg : Hid (∀ W, Below V.heap.size V W → Calls Tryd.prog 40 #[.pointer (some ⟨R, 4, none⟩), .int .i64 1, .int .i64 0] W fun e w' => e = .returned (.int .i64 65536) ∧ ∃ P pa wa wc, Onl (fun b => b = R) V w' ∧ Cl w' R ((f.set 6 (.int .i64 65544)).set 4 (.slice (some ⟨P, 0, none⟩) 1 pa)) ∧ Cl w' P [.int .i64 1, .int .i64 65536, .slice wa 0 wc] ∧ V.heap.size ≤ P) := fun W hW => (begin39 R f W ((HR.out.below HB.out).below hW) HF.out H4.out H6.out).mono fun e w' ⟨h1, P, pa, wa, wc, h2, h3, h4, h5⟩ => ⟨h1, P, pa, wa, wc, (Onl.of_below hW).trans h2, h3, h4, Nat.le_trans hW.size h5⟩
  have HRx : Hid (R ≠ w.heap.size ∧ R ≠ w.heap.size + 1) := by have := HR.out.lt; exact ⟨by omega, by omega⟩
  clear r0 p0 p1 p2 p3 p4 mk cp
  go_region_with (first | (go_at_call 40; refine (HBg.out _ (by first | exact (Below.refl _ _).drew | exact (Below.refl _ _))).mono ?_; rintro e w2 ⟨rfl, P, pa, wa, wc, ho, hr, hp, hge⟩; have HO2 : Hid (Onl (fun b => b = R) V w2) := ho; have HR2 : Hid (Cl w2 R ((f.set 6 (.int .i64 65544)).set 4 (.slice (some ⟨P, 0, none⟩) 1 pa))) := hr; have HP2 : Hid (Cl w2 P [.int .i64 1, .int .i64 65536, .slice wa 0 wc] ∧ V.heap.size ≤ P) := ⟨hp, hge⟩; clear ho hr hp hge))
  all_goals (
    have hX2 := HX.out.onl HO2.out (fun e => HRx.out.1 e.symm)
    have u3 := HR2.out.cell (j := 3) (v := .slice none 0 0) (by rw [List.getElem?_set_ne (by omega), List.getElem?_set_ne (by omega)]; exact H3.out)
    have u3' := HR2.out.fz 3
    have u3a := acell HR2.out.lt u3
    have u3b := acell (W := w2.drew) HR2.out.lt u3
    have y4 := hX2.cell (j := 4) rfl
    have y3 := hX2.cell (j := 3) rfl
    have HX2 : Hid (Cl w2 w.heap.size [.string ⟨#[109, 97, 105, 110]⟩, .int .i64 0, .int .i64 1, .int .i64 0, .slice (some ⟨y, 0, none⟩) 1 1]) := hX2
    clear hX2
    go_wp2
    go_region_law
      (first | (refine step_append_lies _ rfl (.tmp 34) (.tmp 43) 55 rfl w2.heap.size 81 i9 (.agg #[.slice none 0 0, .slice none 0 0, .int .i64 0, .int .i64 0, .int .i64 0, .int .i64 0, .int .i64 0]) 7 88 Tryd.underlying55 AN.out.1 AN.out.2.1 AN.out.2.2.1 AN.out.2.2.2 rfl (by decide) (.slice none 0 0) 0 [] rfl (World.ownsRow_nil _ _ _ _) ⟨w2.heap.size, 0, none⟩ 1 1 [.slice (some ⟨y, 0, none⟩) 1 1, .slice (some ⟨w.heap.size + 1, 0, none⟩) 1 1, .int .i64 65536, .int .i64 0, .int .i64 0, .int .i64 0, .int .i64 (-1)] rfl rfl (World.news_of_block (cs := #[.slice (some ⟨y, 0, none⟩) 1 1, .slice (some ⟨w.heap.size + 1, 0, none⟩) 1 1, .int .i64 65536, .int .i64 0, .int .i64 0, .int .i64 0, .int .i64 (-1)]) (t := 81) (fr := (0, 0)) (by first | exact nb1 w2 _ | exact nb1 w2.drew _)) (by intro u hu; simp at hu; rcases hu with rfl | rfl | rfl | rfl | rfl <;> rfl) (by decide) (by unfold maxLen; omega) (by omega) (by simp) _ rfl ?_; intro g cap w3 hown hgrow hat hl3; have HB3 : Hid (Below w2.heap.size w2 w3) := below_grown (Nat.le_refl _) (by first | exact (Below.refl _ w2).alloc (Nat.le_refl _) _ | exact ((Below.refl _ w2).drew).alloc (Nat.le_refl _) _) hgrow (fun k e => by cases e); have HG : Hid (Cl w3 g [.slice (some ⟨y, 0, none⟩) 1 1, .slice (some ⟨w.heap.size + 1, 0, none⟩) 1 1, .int .i64 65536, .int .i64 0, .int .i64 0, .int .i64 0, .int .i64 (-1)] ∧ w2.heap.size ≤ g) := Cl.own hown; have t3 := (HR2.out.below HB3.out).cell (j := 3) (v := .slice none 0 0) (by rw [List.getElem?_set_ne (by omega), List.getElem?_set_ne (by omega)]; exact H3.out); have t3' := (HR2.out.below HB3.out).fz 3; clear hown hgrow hat))
    all_goals (
      go_wp2
      go_returns
      have hRl := HR.out.lt
      have hPl := HP2.out.1.lt
      have hVs := HS.out
      have hPg := HP2.out.2
      have hgl := HG.out.2
      refine ⟨rfl, g, cap, w.heap.size + 1, P, pa, wa, wc, ?_, ?_, ?_, ?_, ?_, by omega, by omega, by omega⟩
      · exact (((Onl.of_below HB.out).trans HO2.out).trans (Onl.of_below HB3.out)).set (S := fun b => b = R) (b := R) rfl
      · exact (HR2.out.below HB3.out).set (by have := HF.out; simp; omega) _
      · exact HG.out.1.other (fun e => by have := HR2.out.lt; omega)
      · exact ((HQ.out.onl HO2.out (fun e => HRx.out.2 e.symm)).below HB3.out).other (fun e => HRx.out.2 e.symm)
      · exact (HP2.out.1.below HB3.out).other (fun e => by omega)))
end
section
open Go.RowKit Go.Shelf
/-- What a call's beginning leaves. -/
structure EnP (R B nc np m fr : Nat) (bv : Value) (ans : Int) (r : Rs) (xs px rg : List Value) (w w' : World) : Prop where
  out : ∃ cv pv gw, Onl (fun b => b = R ∨ r.pv.ownBlock = some b ∨ r.cv.ownBlock = some b) w w' ∧ Rb w' R { r with cv := cv, pv := pv, nx := r.nx + 8 * ((fr : Int) + 1) } ∧ w'.ownsRow B 81 7 cv (nc + 1) (xs ++ [bv, .slice (some ⟨w.heap.size + 1, 0, none⟩) m m, .int .i64 r.nx, .int .i64 fr, .int .i64 0, .int .i64 0, .int .i64 ans]) ∧ w'.ownsRow B 96 3 pv (np + 1) (px ++ [.int .i64 1, .int .i64 r.nx, .slice (some ⟨gw, 0, none⟩) fr fr]) ∧ Bk w' (w.heap.size + 1) 2 rg ∧ Bk w' gw 2 (List.replicate fr (.int .i64 0)) ∧ w.heap.size + 2 ≤ gw
set_option maxRecDepth 20000 in
set_option maxHeartbeats 4000000 in
theorem enter18g (R B k nc np g o pl pc m fr bl bc : Nat) (ba : Option Addr) (nm : ByteArray) (pa ans na : Int) (av : Value) (r : Rs) (xs px rg : List Value) (w V : World) (hR : Rb w R r) (hpg : r.pg = .slice (some ⟨g, o, none⟩) pl pc) (hk : k < pl) (f0 : w.cell? ⟨g, o + k * 5, none⟩ = some (.string nm)) (f1 : w.cell? ⟨g, o + k * 5 + 1, none⟩ = some (.int .i64 pa)) (f2 : w.cell? ⟨g, o + k * 5 + 2, none⟩ = some (.int .i64 m)) (f3 : w.cell? ⟨g, o + k * 5 + 3, none⟩ = some (.int .i64 fr)) (f4 : w.cell? ⟨g, o + k * 5 + 4, none⟩ = some (.slice ba bl bc)) (hC : w.ownsRow B 81 7 r.cv nc xs) (hP : w.ownsRow B 96 3 r.pv np px) (hB : B ≤ w.heap.size) (hm : m ≤ 4096) (hfr : fr ≤ 4096) (hnc : nc ≤ 1000000) (hnp : np ≤ 1000000) (n0 : 0 ≤ r.nx) (n1 : r.nx ≤ 1099511627776) (hcp : (Builtin.copy_ #[78, 78] 3 #[.slice (some ⟨w.heap.size + 1, 0, none⟩) m m, av]).run Tryd.prog ((w.alloc (.cells #[.string nm, .int .i64 pa, .int .i64 m, .int .i64 fr, .slice ba bl bc] 43)).alloc (.cells (Array.replicate m (.int .i64 0)) 2)) = .ok (.int .i64 na) V) (hV : Onl (fun b => b = w.heap.size + 1) ((w.alloc (.cells #[.string nm, .int .i64 pa, .int .i64 m, .int .i64 fr, .slice ba bl bc] 43)).alloc (.cells (Array.replicate m (.int .i64 0)) 2)) V) (hVq : Bk V (w.heap.size + 1) 2 rg) : Calls Tryd.prog 18 #[.pointer (some ⟨R, 0, none⟩), .int .i64 k, av, .int .i64 ans] w fun e w' => e = .returned (.tuple #[]) ∧ EnP R B nc np m fr (.slice ba bl bc) ans r xs px rg w w' := by
  have r0 : w.cell? ⟨R, 0, none⟩ = some (.slice (some ⟨g, o, none⟩) pl pc) := hpg ▸ hR.cell (j := 0) rfl
  have hk' : (k : Int) < pl := by omega
  have hk0 : ¬ ((k : Int) < 0) := by omega
  have mk : ∀ W, (Instr.makeSlice 78 (.int .i64 m) (.int .i64 m)).run Tryd.prog W = .ok (.slice (some ⟨W.heap.size, 0, none⟩) m m) (W.alloc (.cells (Array.replicate m (.int .i64 0)) 2)) := fun W => by have := mkI m W hm; simpa using this
  obtain ⟨i9, AN0⟩ := info79'
  have AN : Hid (Tryd.prog.info? 81 = some i9 ∧ i9.zero = some (.agg #[.slice none 0 0, .slice none 0 0, .int .i64 0, .int .i64 0, .int .i64 0, .int .i64 0, .int .i64 0]) ∧ i9.size = 7 ∧ i9.bytes = 88) := AN0
  have hW0 : Below w.heap.size w ((w.alloc (.cells #[.string nm, .int .i64 pa, .int .i64 m, .int .i64 fr, .slice ba bl bc] 43)).alloc (.cells (Array.replicate m (.int .i64 0)) 2)) := ((Below.refl _ _).alloc (Nat.le_refl _) _).alloc (by simp) _
  have hs0 : ((w.alloc (.cells #[.string nm, .int .i64 pa, .int .i64 m, .int .i64 fr, .slice ba bl bc] 43)).alloc (.cells (Array.replicate m (.int .i64 0)) 2)).heap.size = w.heap.size + 2 := by simp
  have hRl := hR.lt
  have hsV : V.heap.size ≥ w.heap.size + 2 := by have := hV.size; omega
  -- everything of w stays in V
  have hWV : Below w.heap.size w V := Onl.below (Nat.le_refl _) hW0 hV (fun b e => by omega)
  have HX : Hid (Bk V w.heap.size 43 [.string nm, .int .i64 pa, .int .i64 m, .int .i64 fr, .slice ba bl bc]) := ((Bk.new w [.string nm, .int .i64 pa, .int .i64 m, .int .i64 fr, .slice ba bl bc] 43).alloc _).onl hV (by omega)
  have HRV : Hid (Rb V R r) := hR.below hWV
  have HCV : Hid (V.ownsRow B 81 7 r.cv nc xs) := own_keep hC (fun b hb => hWV.block b (own_lt hC hb))
  have HPV : Hid (V.ownsRow B 96 3 r.pv np px) := own_keep hP (fun b hb => hWV.block b (own_lt hP hb))
  have HQV : Hid (Bk V (w.heap.size + 1) 2 rg) := hVq
  have HOV : Hid (Onl (fun b => b = R ∨ r.pv.ownBlock = some b ∨ r.cv.ownBlock = some b) w V) := Onl.of_below hWV
  have HN : Hid (B ≤ w.heap.size ∧ fr ≤ 4096 ∧ nc ≤ 1000000 ∧ np ≤ 1000000 ∧ 0 ≤ r.nx ∧ r.nx ≤ 1099511627776 ∧ R < w.heap.size ∧ w.heap.size + 2 ≤ V.heap.size) := ⟨hB, hfr, hnc, hnp, n0, n1, hRl, hsV⟩
  have HNE : Hid (r.cv.ownBlock ≠ some R ∧ r.pv.ownBlock ≠ some R ∧ (∀ b, r.cv.ownBlock = some b → r.pv.ownBlock ≠ some b) ∧ (∀ b, r.cv.ownBlock = some b → b < w.heap.size) ∧ (∀ b, r.pv.ownBlock = some b → b < w.heap.size)) := ⟨own_ne hC hR (by decide), own_ne hP hR (by decide), fun b hb => by obtain ⟨_, cur, hc⟩ := own_block hC hb; exact own_ne hP hc (by decide), fun b hb => own_lt hC hb, fun b hb => own_lt hP hb⟩
  have HBg : Hid (∀ W, Below V.heap.size V W → Calls Tryd.prog 40 #[.pointer (some ⟨R, 4, none⟩), .int .i64 1, .int .i64 fr] W fun e w' => e = .returned (.int .i64 r.nx) ∧ ∃ gw pv, Onl (fun b => b = R ∨ r.pv.ownBlock = some b) V w' ∧ Rb w' R { r with pv := pv, nx := r.nx + 8 * ((fr : Int) + 1) } ∧ w'.ownsRow B 96 3 pv (np + 1) (px ++ [.int .i64 1, .int .i64 r.nx, .slice (some ⟨gw, 0, none⟩) fr fr]) ∧ Bk w' gw 2 (List.replicate fr (.int .i64 0)) ∧ V.heap.size ≤ gw) := fun W hW => (begin40g R B np fr 1 r px W (HRV.out.below hW) (own_keep HPV.out (fun b hb => hW.block b (own_lt HPV.out hb))) (by have := hW.size; omega) hfr hnp n0 n1).mono fun e w' ⟨h1, gw, pv, h2, h3, h4, h5, h6⟩ => ⟨h1, gw, pv, (Onl.of_below hW).trans h2, h3, h4, h5, Nat.le_trans hW.size h6⟩
  clear hR hpg hC hP hB hm hfr hnc hnp n0 n1 hV hVq hWV hW0 hs0 hsV hRl AN0 hk
  go_enter Tryd.func18, Tryd.ntmps18
  go_wp2
  have x3 := HX.out.cell (j := 3) rfl
  clear r0 f0 f1 f2 f3 f4 mk hcp hk' hk0
  go_region_with (first | (go_at_call 40; refine (HBg.out _ (by first | exact (Below.refl _ _).drew | exact (Below.refl _ _))).mono ?_; rintro e w2 ⟨rfl, gw, pv, ho, hr, hp, hq, hge⟩; have HO2 : Hid (Onl (fun b => b = R ∨ r.pv.ownBlock = some b) V w2) := ho; have HR2 : Hid (Rb w2 R { r with pv := pv, nx := r.nx + 8 * ((fr : Int) + 1) }) := hr; have HP2 : Hid (w2.ownsRow B 96 3 pv (np + 1) (px ++ [.int .i64 1, .int .i64 r.nx, .slice (some ⟨gw, 0, none⟩) fr fr]) ∧ Bk w2 gw 2 (List.replicate fr (.int .i64 0)) ∧ V.heap.size ≤ gw) := ⟨hp, hq, hge⟩; clear ho hr hp hq hge))
  all_goals (
    have hlt := HN.out.2.2.2.2.2.2.1
    have hX2 : Bk w2 w.heap.size 43 [.string nm, .int .i64 pa, .int .i64 m, .int .i64 fr, .slice ba bl bc] := HX.out.onl HO2.out (fun e => by rcases e with e | e; omega; (have := HNE.out.2.2.2.2 _ e; omega))
    have HQ2 : Hid (Bk w2 (w.heap.size + 1) 2 rg) := HQV.out.onl HO2.out (fun e => by rcases e with e | e; omega; (have := HNE.out.2.2.2.2 _ e; omega))
    have HC2 : Hid (w2.ownsRow B 81 7 r.cv nc xs) := own_onl HCV.out HO2.out (fun b hb e => by rcases e with e | e; (subst e; exact HNE.out.1 hb); exact HNE.out.2.2.1 b hb e)
    have HS2 : Hid (V.heap.size ≤ w2.heap.size) := HO2.out.size
    have u3 := HR2.out.cell (j := 3) rfl
    have u3' := HR2.out.fz 3
    have u3a := acell HR2.out.lt u3
    have u3b := acell (W := w2.drew) HR2.out.lt u3
    have y4 := hX2.cell (j := 4) rfl
    have y3 := hX2.cell (j := 3) rfl
    clear hX2 hlt
    go_wp2
    go_region_law
      (first | (refine step_append_lies _ rfl (.tmp 34) (.tmp 43) 55 rfl B 81 i9 (.agg #[.slice none 0 0, .slice none 0 0, .int .i64 0, .int .i64 0, .int .i64 0, .int .i64 0, .int .i64 0]) 7 88 Tryd.underlying55 AN.out.1 AN.out.2.1 AN.out.2.2.1 AN.out.2.2.2 rfl (by decide) r.cv nc xs rfl (by first | exact own_keep HC2.out (fun b hb => ((Below.refl w2.heap.size w2).alloc (Nat.le_refl _) _).block b (own_lt HC2.out hb)) | exact own_keep HC2.out (fun b hb => ((Below.refl w2.heap.size w2).drew.alloc (Nat.le_refl _) _).block b (own_lt HC2.out hb))) ⟨w2.heap.size, 0, none⟩ 1 1 [.slice ba bl bc, .slice (some ⟨w.heap.size + 1, 0, none⟩) m m, .int .i64 r.nx, .int .i64 fr, .int .i64 0, .int .i64 0, .int .i64 ans] rfl rfl (World.news_of_block (cs := ([.slice ba bl bc, .slice (some ⟨w.heap.size + 1, 0, none⟩) m m, .int .i64 r.nx, .int .i64 fr, .int .i64 0, .int .i64 0, .int .i64 ans]).toArray) (t := 81) (fr := (0, 0)) (by first | exact nb1 w2 _ | exact nb1 w2.drew _)) (by intro u hu; simp at hu; rcases hu with rfl | rfl | rfl | rfl | rfl | rfl <;> rfl) (by decide) (by unfold maxLen; have := HN.out.2.2.1; omega) (by have := HN.out.2.2.1; omega) (by have := HN.out.1; have := HN.out.2.2.2.2.2.2.2; have := HS2.out; simp; omega) _ rfl ?_; intro gc cap w3 hown hgrow hat hl3; have HZ : Hid (Onl (fun b => r.cv.ownBlock = some b) w2 w3 ∧ w3.ownsRow B 81 7 (.slice (some ⟨gc, 0, none⟩) (nc + 1) cap) (nc + 1) (xs ++ [.slice ba bl bc, .slice (some ⟨w.heap.size + 1, 0, none⟩) m m, .int .i64 r.nx, .int .i64 fr, .int .i64 0, .int .i64 0, .int .i64 ans]) ∧ gc ≠ R) := (by refine ⟨?_, hown, ?_⟩; (first | exact ((Onl.of_below (Below.refl _ w2)).alloc _).trans (onl_grown hgrow) | exact ((Onl.of_below (Below.refl _ w2).drew).alloc _).trans (onl_grown hgrow)); (intro e; subst e; rcases hat with h | h; exact HNE.out.1 h; (have := HR2.out.lt; simp at h; omega))); have t3 := (HR2.out.onl HZ.out.1 HNE.out.1).cell (j := 3) rfl; have t3' := (HR2.out.onl HZ.out.1 HNE.out.1).fz 3; clear hown hgrow hat))
    all_goals (
      go_wp2
      go_returns
      obtain ⟨z1, z2, z3⟩ := HZ.out
      obtain ⟨p1, p2, p3⟩ := HP2.out
      have hRl := HN.out.2.2.2.2.2.2.1
      have hVs := HN.out.2.2.2.2.2.2.2
      refine ⟨rfl, ⟨?_⟩⟩
      refine ⟨.slice (some ⟨gc, 0, none⟩) (nc + 1) cap, pv, gw, ?_, ?_, ?_, ?_, ?_, ?_, ?_⟩
      · exact ((HOV.out.trans (HO2.out.mono fun b h => h.imp id .inl)).trans (z1.mono fun b h => .inr (.inr h))).set (S := fun b => b = R ∨ r.pv.ownBlock = some b ∨ r.cv.ownBlock = some b) (b := R) (.inl rfl)
      · exact (HR2.out.onl z1 HNE.out.1).set 3 (.slice (some ⟨gc, 0, none⟩) (nc + 1) cap)
      · exact own_set z2 (fun e => z3 (by cases e; rfl))
      · refine own_set (own_onl p1 z1 (fun b hb e => ?_)) (own_ne p1 HR2.out (by decide))
        obtain ⟨_, cur, hc⟩ := own_block HC2.out e
        exact own_ne p1 hc (by decide) hb
      · exact (HQ2.out.onl z1 (fun e => by have := HNE.out.2.2.2.1 _ e; omega)).other (by omega)
      · exact (p2.onl z1 (fun e => by have := HNE.out.2.2.2.1 _ e; omega)).other (by omega)
      · omega))
end
section
open Go.RowKit Go.Shelf
variable {p : List Fun} {pp : Option Addr} {pc : Nat} {W0 : World} {R m1 m2 : Nat} {r : Rs} {C ca P pa : Nat} {gl : List (Nat × Cal)} {gp : List (Nat × Par)} {W : World} {s : St} {tq : Nat} {lq : List (Nat × Cal)} {c : Cal} {f : Fun} {bl : Blk} {i : Ins} {g1 o1 bc g2 o2 ic : Nat}
theorem own_sl {W : World} {B : Nat} {e : TypeId} {size n : Nat} {v : Value} {xs : List Value} (h : W.ownsRow B e size v (n + 1) xs) : ∃ C ca, v = .slice (some ⟨C, 0, none⟩) (n + 1) ca ∧ B ≤ C := by
  obtain ⟨_, ⟨_, h2⟩ | ⟨g, cap, cur, e1, e2, _⟩⟩ := h
  · omega
  · exact ⟨g, cap, e1, e2⟩
theorem flP_snoc (gp : List (Nat × Par)) (x : Nat × Par) (hx : ¬ x.2.kd = 0) : flP ((gp ++ [x]).map ptO) = flP (gp.map ptO) ++ [.int .i64 x.2.kd, .int .i64 x.2.ad, .slice (some ⟨x.1, 0, none⟩) x.2.ws.length x.2.ws.length] := by
  unfold flP
  rw [List.map_append, List.flatMap_append]
  simp [ptO, hx, ptC]
theorem rep_map (n : Nat) : (List.replicate n (0 : Int)).map (Value.int .i64) = List.replicate n (.int .i64 0) := by simp
theorem RelD.parts_lt (h : RelD p pp pc W0 R m1 m2 r C ca P pa gl gp W s) : ∀ x ∈ gp, ¬ x.2.kd = 0 → x.1 < W.heap.size := fun x hx hk => (h.wd x hx hk).2.1.lt
theorem RelD.calls_lt (h : RelD p pp pc W0 R m1 m2 r C ca P pa gl gp W s) : ∀ x ∈ gl, x.1 < W.heap.size := fun x hx => (h.rg x hx).2.lt
/-- A part of memory has begun. -/
theorem RelD.part (h : RelD p pp pc W0 R m1 m2 r C ca P pa gl gp W s) {pv : Value} {g : Nat} {W' : World} (n : Nat) (k : Onl (fun b => b = R ∨ r.pv.ownBlock = some b) W W') (hR : Rb W' R { r with pv := pv, hp := r.hp + n, nx := r.nx + 8 * ((n : Int) + 1) }) (ho : W'.ownsRow W0.heap.size 96 3 pv (gp.length + 1) (flP (gp.map ptO) ++ [.int .i64 2, .int .i64 r.nx, .slice (some ⟨g, 0, none⟩) n n])) (hg : Bk W' g 2 (List.replicate n (.int .i64 0))) (hgl : W.heap.size ≤ g) : GoD p pp pc W0 R m1 m2 W' { s with ps := s.ps ++ [⟨2, s.nx, List.replicate n 0⟩], hp := s.hp + n, nx := s.nx + 8 * ((n : Int) + 1) } := by
  obtain ⟨P', pa', ep, hP'⟩ := own_sl ho
  have k' : Onl (fun b => b = R ∨ b = P ∨ b = C) W W' := k.mono fun b hb => by
    rcases hb with hb | hb
    · exact .inl hb
    · rw [h.pv] at hb; cases hb; exact .inr (.inl rfl)
  obtain ⟨c0, cs, hC⟩ := h.bC
  obtain ⟨p0, ps, hP⟩ := h.bP
  have hs := h.bel.size
  refine ⟨_, C, ca, P', pa', gl, gp ++ [(g, ⟨2, s.nx, List.replicate n 0⟩)], h.make k' hR rfl rfl rfl rfl rfl h.cv ?_ ?_ ?_ (fun x hx => ⟨(h.rg x hx).1, h.rgs k' (h.rg x hx).2⟩) h.nd ?_ ?_ h.ls ?_ h.en ?_ ?_ h.fin h.cd h.st rfl rfl⟩
  · refine own_onl h.co k (fun b hb => ?_)
    rw [h.cv] at hb
    cases hb
    rintro (e | e)
    · exact hC.ne h.rb (by decide) e
    · rw [h.pv] at e; cases e; exact hP.ne hC (by decide) rfl
  · rw [List.length_append]; exact ep
  · rw [flP_snoc _ _ (by simp), List.length_append]
    simp only [List.length_replicate, List.length_singleton]
    rw [← h.nx]
    exact ho
  · intro x hx hk
    rcases List.mem_append.1 hx with hx | hx
    · obtain ⟨t1, t2, t3⟩ := h.wd x hx hk
      exact ⟨t1, h.rgs k' t2, t3⟩
    · simp only [List.mem_singleton] at hx
      subst hx
      refine ⟨Nat.le_trans hs hgl, ?_, fun e => ?_⟩
      · show Bk W' g 2 _
        rw [rep_map]
        exact hg
      · obtain ⟨y, hy, ey⟩ := List.mem_map.1 e
        have := h.calls_lt y hy
        rw [ey] at this
        have : g < W.heap.size := this
        omega
  · rw [List.filter_append, List.map_append, List.nodup_append]
    refine ⟨h.wn, by simp [lvG], fun a ha b hb => ?_⟩
    obtain ⟨y, hy, ey⟩ := List.mem_map.1 ha
    obtain ⟨hy1, hy2⟩ := List.mem_filter.1 hy
    have h1 := h.parts_lt y hy1 (by simpa [lvG] using hy2)
    simp [lvG] at hb
    omega
  · rw [List.map_append, h.gs]; rfl
  · show r.nx + _ = s.nx + _; rw [h.nx]
  · show r.hp + _ = s.hp + _; rw [h.hp]
theorem call_allocs (h : RelD p pp pc W0 R m1 m2 r C ca P pa ((tq, s.top) :: lq) gp W s) (hn : lq.length < 100000) (hP : InsP W0 W p c f bl i g1 o1 bc g2 o2 ic) (hg : ∀ y ∈ i.gs, 0 ≤ y ∧ y < s.top.rg.length) (hd : i.d = -1 ∨ (0 ≤ i.d ∧ i.d < s.top.rg.length)) (hl : i.gs.length = 1) (hnm : i.nm.data.toList = [114, 116, 46, 97, 108, 108, 111, 99]) (hnx : 0 ≤ s.nx ∧ s.nx ≤ 1099511627776) (hhp : 0 ≤ s.hp ∧ s.hp ≤ 8192) (hgp : gp.length ≤ 1000000) : Calls Tryd.prog 44 #[.pointer (some ⟨R, 0, none⟩), .pointer (some ⟨g2, o2 + c.j * 9, none⟩)] W fun e w' => e = .returned (.tuple #[]) ∧ OutD p pp pc W0 R m1 m2 w' (calS p s i) := by
  have hs := h.stpF
  obtain ⟨a', z, zo, hgs, az, i6⟩ := one_arg hP hl
  obtain ⟨a, va, e1, hva, gva, hal, hvm⟩ := reg_in s.top (hg a' (by rw [hgs]; simp))
  have i1 := hP.ce 1 _ rfl
  have i5 := hP.ce 5 _ rfl
  rw [nm_of hnm] at i5
  rw [e1] at az
  have evs : (i.gs.map (getR s.top)).getD 0 0 = va := by rw [hgs]; simp [gva]
  by_cases hb : va < 0 ∨ 64 < va ∨ 8192 < s.hp + va
  · have e : calS p s i = .inr ⟨1, 110, s.out, s.st⟩ := by
      unfold calS
      rw [if_neg (by rw [hnm]; decide), if_neg (by rw [hnm]; decide), if_pos hnm]
      simp only [evs]
      rw [if_pos hb]
    rw [e]
    refine call_alloc R C ca lq.length g2 (o2 + c.j * 9) i.ac s.top.rg.length s.top.rg.length tq z zo a va i.d 0 (fun W' => ∃ W1 k, RelD p pp pc W0 R m1 m2 r C ca P pa ((tq, s.top) :: lq) gp W1 s ∧ W' = ((W1.setCell ⟨R, 9, none⟩ (.int .i64 1)).setCell ⟨R, 10, none⟩ (.int .i64 110)).drewN k) _ W hs.h3 (by omega) hs.c1 hal (hs.qv a va hva) az i1 i5 i6 ?_ ?_
    · intro W' hbl
      have hx := h.grow hbl
      refine (alloc_bad R va r W' hx.rb (by rw [h.hp]; exact hhp.1) (by rw [h.hp]; omega) (by rw [h.hp]; exact hb)).mono ?_
      rintro e w' ⟨rfl, k, rfl⟩
      refine ⟨rfl, ?_, W', k, hx, rfl⟩
      have hbR : Below W0.heap.size W' (((W'.setCell ⟨R, 9, none⟩ (.int .i64 1)).setCell ⟨R, 10, none⟩ (.int .i64 110)).drewN k) := Onl.below hx.bel.size (Below.refl _ _) ((((Onl.of_below (Below.refl _ _)).set (S := fun b => b = R) rfl).set rfl).drewN k) (fun b e => by rw [e]; exact h.rB)
      exact hP.cell_on ((hbl.mono h.bel.size).trans hbR) rfl
    · rintro W' ⟨W1, k, hx, rfl⟩
      have hy := hx.stpF
      obtain ⟨q0, hQ⟩ := hx.rg (tq, s.top) (by simp)
      have nqR : tq ≠ R := hQ.ne hx.rb (by decide)
      have kR : Onl (fun b => b = R) W1 (((W1.setCell ⟨R, 9, none⟩ (.int .i64 1)).setCell ⟨R, 10, none⟩ (.int .i64 110)).drewN k) := (((Onl.of_below (Below.refl _ _)).set (S := fun b => b = R) rfl).set rfl).drewN k
      have hR' : Rb (((W1.setCell ⟨R, 9, none⟩ (.int .i64 1)).setCell ⟨R, 10, none⟩ (.int .i64 110)).drewN k) R { r with fin := 1, cd := 110 } := (hx.rb.set 9 (.int .i64 1)).set 10 (.int .i64 110)
      have hO : (((W1.setCell ⟨R, 9, none⟩ (.int .i64 1)).setCell ⟨R, 10, none⟩ (.int .i64 110)).drewN k).ownsRow W0.heap.size 5 1 r.ov s.out.length (Lib.byteCells s.out) := own_onl hx.ov kR (fun g hg e => by
        obtain ⟨_, os, hO⟩ := hx.bO hg
        exact hO.ne hx.rb (by decide) e)
      have hbl : Below W0.heap.size W0 (((W1.setCell ⟨R, 9, none⟩ (.int .i64 1)).setCell ⟨R, 10, none⟩ (.int .i64 110)).drewN k) := Onl.below (Nat.le_refl _) hx.bel kR (fun b e => by rw [e]; exact h.rB)
      rcases hd with hd | hd
      · rw [hd]
        refine (answer_none R 0 _).mono ?_
        rintro e w' ⟨rfl, rfl⟩
        exact ⟨rfl, _, hbl, h.rB, hR', rfl, rfl, h.st, hO⟩
      · obtain ⟨n, hnd⟩ : ∃ n : Nat, i.d = n := ⟨i.d.toNat, by omega⟩
        have hnl : n < s.top.rg.length := by omega
        rw [hnd]
        have hQ' : RgB (((W1.setCell ⟨R, 9, none⟩ (.int .i64 1)).setCell ⟨R, 10, none⟩ (.int .i64 110)).drewN k) tq s.top.rg := hQ.onl kR (fun e => nqR e)
        have c1' : (((W1.setCell ⟨R, 9, none⟩ (.int .i64 1)).setCell ⟨R, 10, none⟩ (.int .i64 110)).drewN k).cell? ⟨C, lq.length * 7 + 1, none⟩ = some (.slice (some ⟨tq, 0, none⟩) s.top.rg.length s.top.rg.length) := (World.cell?_of_block (kR.block C (World.block_lt_of_cell? _ _ hy.c1) (fun e => hy.nRC e.symm))).trans hy.c1
        have h3' : (((W1.setCell ⟨R, 9, none⟩ (.int .i64 1)).setCell ⟨R, 10, none⟩ (.int .i64 110)).drewN k).cell? ⟨R, 3, none⟩ = some (.slice (some ⟨C, 0, none⟩) (lq.length + 1) ca) := by
          have t := hR'.cell (j := 3) rfl
          rw [t, show ({ r with fin := 1, cd := 110 } : Rs).cv = r.cv from rfl, h.cv]
          rfl
        refine (answer53g R C ca lq.length tq s.top.rg.length s.top.rg.length n 0 s.top.rg[n] _ h3' (by omega) c1' hnl (hQ'.at (List.getElem?_eq_getElem hnl)) (hQ'.fz n)).mono ?_
        rintro e w' ⟨rfl, k2, rfl⟩
        have kq : Onl (fun b => b = tq) (((W1.setCell ⟨R, 9, none⟩ (.int .i64 1)).setCell ⟨R, 10, none⟩ (.int .i64 110)).drewN k) (((((W1.setCell ⟨R, 9, none⟩ (.int .i64 1)).setCell ⟨R, 10, none⟩ (.int .i64 110)).drewN k).drewN k2).setCell ⟨tq, n, none⟩ (.int .i64 0)) := (onl_drew _ k2 _).set rfl
        refine ⟨rfl, _, Onl.below (Nat.le_refl _) hbl kq (fun b e => by rw [e]; exact q0), h.rB, hR'.onl kq (fun e => nqR e.symm), rfl, rfl, h.st, own_onl hO kq (fun g hg e => ?_)⟩
        obtain ⟨_, os, hOb⟩ := own_block hO hg
        exact hOb.ne hQ' (by decide) e
  · obtain ⟨n, hnv⟩ : ∃ n : Nat, va = n := ⟨va.toNat, by omega⟩
    have e : calS p s i = .inl { s with top := setR s.top i.d s.nx, ps := s.ps ++ [⟨2, s.nx, List.replicate n 0⟩], hp := s.hp + n, nx := s.nx + 8 * ((n : Int) + 1) } := by
      unfold calS
      rw [if_neg (by rw [hnm]; decide), if_neg (by rw [hnm]; decide), if_pos hnm]
      simp only [evs]
      rw [if_neg hb, hnv]
      simp
    rw [e]
    refine call_alloc R C ca lq.length g2 (o2 + c.j * 9) i.ac s.top.rg.length s.top.rg.length tq z zo a va i.d s.nx (fun W' => GoD p pp pc W0 R m1 m2 W' { s with ps := s.ps ++ [⟨2, s.nx, List.replicate n 0⟩], hp := s.hp + n, nx := s.nx + 8 * ((n : Int) + 1) }) _ W hs.h3 (by omega) hs.c1 hal (hs.qv a va hva) az i1 i5 i6 ?_ ?_
    · intro W' hbl
      have hx := h.grow hbl
      rw [hnv]
      refine (alloc_ok R W0.heap.size gp.length n r (flP (gp.map ptO)) W' hx.rb hx.po hx.bel.size hgp (by rw [h.nx]; exact hnx.1) (by rw [h.nx]; exact hnx.2) (by rw [h.hp]; exact hhp.1) (by omega) (by rw [h.hp]; omega)).mono ?_
      rintro e w' ⟨rfl, g, pv, k, q1, q2, q3, q4⟩
      have hbR : Below W0.heap.size W' w' := Onl.below hx.bel.size (Below.refl _ _) k (fun b e => by
        rcases e with e | e
        · rw [e]; exact h.rB
        · exact own_base hx.po e)
      refine ⟨by rw [h.nx], hP.cell_on ((hbl.mono h.bel.size).trans hbR) rfl, hx.part n k q1 q2 q3 q4⟩
    · rintro W' ⟨r', C', ca', P', pa', gl', gp', hx⟩
      refine answer_any hx ?_ i.d s.nx hd
      have := congrArg List.length hx.ls
      have t := congrArg List.length h.ls
      simp only [List.length_map, List.length_cons] at this t
      omega
end
end Go.Proofs.YtdppoblbenbafaaDoor
