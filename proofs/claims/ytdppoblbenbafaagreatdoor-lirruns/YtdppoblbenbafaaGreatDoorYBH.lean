/- The document's own step. The document's own step. One step of the document's: registers, jumps, memory. -/
import Derived.Test.YtdppoblbenbafaaGreatDoorYBD
import Derived.Test.YtdppoblbenbafaaGreatDoorYBA
import Derived.Deep.RegionHeld3
import Derived.Test.YtdppoblbenbafaaGreatDoorYBF
import Derived.Test.YtdppoblbenbafaaGreatDoorYBG
import Derived.Test.YtdppoblbenbafaaGreatDoorYBC
import Derived.Test.YtdppoblbenbafaaGreatDoorYBE
namespace Go.Proofs.YtdppoblbenbafaaGreatDoor
section
open Go.RowKit Go.Shelf
set_option maxRecDepth 20000
set_option maxHeartbeats 4000000
theorem rstep_no (R C ca n q g o pl pc g1 o1 bl bc g2 o2 il ic k b j : Nat) (ob an : Int) (rg : List Int) (i : Ins) (r : Rq) (cs : List Value) (w : World) (h : StpQ R C ca n q g o pl pc g1 o1 bl bc g2 o2 il ic k b j ob an rg i r cs w) (a : Nat) (ha : i.a = (a : Int)) (hr : rg[a]? = some (0 : Int)) (hop : i.op = 9) : Calls Tryz.prog 33 #[.pointer (some ⟨R, 0, none⟩)] w fun e w' => e = .returned (.tuple #[]) ∧ Onl (fun b => b = C) w w' ∧ Bk w' C 109 (((cs.set (n * 6 + 4) (.int .i64 ((j : Int) + 1))).set (n * 6 + 3) (.int .i64 i.el)).set (n * 6 + 4) (.int .i64 0)) := by
  have H : Hid (StpQ R C ca n q g o pl pc g1 o1 bl bc g2 o2 il ic k b j ob an rg i r cs w) := h
  have HKS : Hid (∀ W, Below w.heap.size w W → W.cell? ⟨R, 0, none⟩ = some (.slice (some ⟨g, o, none⟩) pl pc) ∧ W.cell? ⟨C, n * 6, none⟩ = some (.int .i64 (k : Nat)) ∧ W.cell? ⟨g, o + k * 5 + 4, none⟩ = some (.slice (some ⟨g1, o1, none⟩) bl bc) ∧ W.cell? ⟨C, n * 6 + 3, none⟩ = some (.int .i64 (b : Nat)) ∧ W.cell? ⟨g1, o1 + b, none⟩ = some (.slice (some ⟨g2, o2, none⟩) il ic) ∧ W.cell? ⟨C, n * 6 + 4, none⟩ = some (.int .i64 (j : Nat)) ∧ W.cell? ⟨g2, o2 + j * 9, none⟩ = some (.int .i64 i.op) ∧ W.cell? ⟨g2, o2 + j * 9 + 1, none⟩ = some (.int .i64 i.d) ∧ W.cell? ⟨g2, o2 + j * 9 + 2, none⟩ = some (.int .i64 i.a) ∧ W.cell? ⟨g2, o2 + j * 9 + 3, none⟩ = some (.int .i64 i.b) ∧ W.cell? ⟨g2, o2 + j * 9 + 4, none⟩ = some (.int .i64 i.n) ∧ W.cell? ⟨g2, o2 + j * 9 + 5, none⟩ = some (.string i.nm) ∧ W.cell? ⟨g2, o2 + j * 9 + 6, none⟩ = some (.slice i.ar i.gs.length i.ac) ∧ W.cell? ⟨g2, o2 + j * 9 + 7, none⟩ = some (.int .i64 i.to) ∧ W.cell? ⟨g2, o2 + j * 9 + 8, none⟩ = some (.int .i64 i.el)) := fun W hW => by
    have hc := h.bkc.below hW
    have ce : ∀ (t : Nat) (v : Value), (inC i)[t]? = some v → W.cell? ⟨g2, o2 + j * 9 + t, none⟩ = some v := fun t v ht => (World.cell?_of_block (hW.block g2 (World.block_lt_of_cell? _ _ (h.ce t v ht)))).trans (h.ce t v ht)
    exact ⟨(h.rb.below hW).cell (j := 0) (by rw [← h.pg]; rfl), hc.cell (j := n * 6) (h.fc 0 _ rfl), (World.cell?_of_block (hW.block g (World.block_lt_of_cell? _ _ h.f4))).trans h.f4, hc.cell (h.fc 3 _ rfl), (World.cell?_of_block (hW.block g1 (World.block_lt_of_cell? _ _ h.y0))).trans h.y0, hc.cell (h.fc 4 _ rfl), ce 0 _ rfl, ce 1 _ rfl, ce 2 _ rfl, ce 3 _ rfl, ce 4 _ rfl, ce 5 _ rfl, ce 6 _ rfl, ce 7 _ rfl, ce 8 _ rfl⟩
  have r4 := h.rb.cell (j := 4) (v := .slice (some ⟨C, 0, none⟩) (n + 1) ca) (by rw [← h.cv]; rfl)
  have hkI : (k : Int) < pl := by have := h.hk; omega
  have hbI : (b : Int) < bl := by have := h.hb; omega
  have hjI : (j : Int) < il := by have := h.hj; omega
  have e0 := wrapN n (by have := h.hn; omega)
  have e1 : IntKind.i64.wrap ((n : Int) + 1 - 1) = n := by rw [wrapI _ (by have := h.hn; omega) (by have := h.hn; omega)]; omega
  have ej := wrapN1 j (by have := h.hj2; omega)
  have lC := h.bkc.lt
  have lR := h.rb.lt
  have nRC : ¬ R = C := h.rb.ne h.bkc (by decide)
  have nCR : ¬ C = R := fun e => nRC e.symm
  have zc : ∀ t, w.frozen? ⟨C, t, none⟩ = false := h.bkc.fz
  have cj : w.cell? ⟨C, n * 6 + 4, none⟩ = some (.int .i64 (j : Nat)) := h.bkc.cell (h.fc 4 _ rfl)
  have HRg : Hid (rg[a]? = some (0 : Int)) := hr
  have nqC : ¬ q = C := h.rgb.ne h.bkc (by decide)
  have nCq : ¬ C = q := fun e => nqC e.symm
  have haI : (a : Int) < rg.length := by have := (List.getElem?_eq_some_iff.1 hr).1; omega
  clear h
  go_enter Tryz.func33, Tryz.ntmps33
  go_wp2
  go_quiet (fail)
  go_wp2
  have HKV : Hid (∀ W, Below (w.drewN nq).heap.size (w.drewN nq) W → W.cell? ⟨R, 0, none⟩ = some (.slice (some ⟨g, o, none⟩) pl pc) ∧ W.cell? ⟨C, n * 6, none⟩ = some (.int .i64 (k : Nat)) ∧ W.cell? ⟨g, o + k * 5 + 4, none⟩ = some (.slice (some ⟨g1, o1, none⟩) bl bc) ∧ W.cell? ⟨C, n * 6 + 3, none⟩ = some (.int .i64 (b : Nat)) ∧ W.cell? ⟨g1, o1 + b, none⟩ = some (.slice (some ⟨g2, o2, none⟩) il ic) ∧ W.cell? ⟨C, n * 6 + 4, none⟩ = some (.int .i64 (j : Nat)) ∧ W.cell? ⟨g2, o2 + j * 9, none⟩ = some (.int .i64 i.op) ∧ W.cell? ⟨g2, o2 + j * 9 + 1, none⟩ = some (.int .i64 i.d) ∧ W.cell? ⟨g2, o2 + j * 9 + 2, none⟩ = some (.int .i64 i.a) ∧ W.cell? ⟨g2, o2 + j * 9 + 3, none⟩ = some (.int .i64 i.b) ∧ W.cell? ⟨g2, o2 + j * 9 + 4, none⟩ = some (.int .i64 i.n) ∧ W.cell? ⟨g2, o2 + j * 9 + 5, none⟩ = some (.string i.nm) ∧ W.cell? ⟨g2, o2 + j * 9 + 6, none⟩ = some (.slice i.ar i.gs.length i.ac) ∧ W.cell? ⟨g2, o2 + j * 9 + 7, none⟩ = some (.int .i64 i.to) ∧ W.cell? ⟨g2, o2 + j * 9 + 8, none⟩ = some (.int .i64 i.el)) := fun W hW => HKS.out W ((below_drewN (Below.refl _ _) nq).trans hW)
  have HV : Hid (Bk (w.drewN nq) C 109 cs ∧ Below w.heap.size w (w.drewN nq)) := ⟨H.out.bkc.drewN nq, below_drewN (Below.refl _ _) nq⟩
  have lCV : C < (w.drewN nq).heap.size := lC
  have lRV : R < (w.drewN nq).heap.size := lR
  have cjV : (w.drewN nq).cell? ⟨C, n * 6 + 4, none⟩ = some (.int .i64 (j : Nat)) := cj
  have cbV : (w.drewN nq).cell? ⟨C, n * 6 + 3, none⟩ = some (.int .i64 (b : Nat)) := H.out.bkc.cell (H.out.fc 3 _ rfl)
  have crV : (w.drewN nq).cell? ⟨C, n * 6 + 1, none⟩ = some (.slice (some ⟨q, 0, none⟩) rg.length rg.length) := H.out.bkc.cell (H.out.fc 1 _ rfl)
  have zcV : ∀ t, (w.drewN nq).frozen? ⟨C, t, none⟩ = false := zc
  have qvV : (w.drewN nq).cell? ⟨q, a, none⟩ = some (.int .i64 0) := H.out.rgb.cell (by rw [List.getElem?_map, HRg.out]; rfl)
  have lqV : q < (w.drewN nq).heap.size := H.out.rgb.lt
  clear r4 cj zc
  generalize hV : w.drewN nq = V at *
  clear hV
  go_region_held3 (fun W => W.cell? ⟨R, 0, none⟩ = some (.slice (some ⟨g, o, none⟩) pl pc) ∧ W.cell? ⟨C, n * 6, none⟩ = some (.int .i64 (k : Nat)) ∧ W.cell? ⟨g, o + k * 5 + 4, none⟩ = some (.slice (some ⟨g1, o1, none⟩) bl bc) ∧ W.cell? ⟨C, n * 6 + 3, none⟩ = some (.int .i64 (b : Nat)) ∧ W.cell? ⟨g1, o1 + b, none⟩ = some (.slice (some ⟨g2, o2, none⟩) il ic) ∧ W.cell? ⟨C, n * 6 + 4, none⟩ = some (.int .i64 (j : Nat)) ∧ W.cell? ⟨g2, o2 + j * 9, none⟩ = some (.int .i64 i.op) ∧ W.cell? ⟨g2, o2 + j * 9 + 1, none⟩ = some (.int .i64 i.d) ∧ W.cell? ⟨g2, o2 + j * 9 + 2, none⟩ = some (.int .i64 i.a) ∧ W.cell? ⟨g2, o2 + j * 9 + 3, none⟩ = some (.int .i64 i.b) ∧ W.cell? ⟨g2, o2 + j * 9 + 4, none⟩ = some (.int .i64 i.n) ∧ W.cell? ⟨g2, o2 + j * 9 + 5, none⟩ = some (.string i.nm) ∧ W.cell? ⟨g2, o2 + j * 9 + 6, none⟩ = some (.slice i.ar i.gs.length i.ac) ∧ W.cell? ⟨g2, o2 + j * 9 + 7, none⟩ = some (.int .i64 i.to) ∧ W.cell? ⟨g2, o2 + j * 9 + 8, none⟩ = some (.int .i64 i.el)) (first | exact HKV.out _ (Below.refl _ _).drew | exact HKV.out _ ((Below.refl V.heap.size V).alloc (Nat.le_refl _) _) | exact HKV.out _ ((Below.refl V.heap.size V).drew.alloc (Nat.le_refl _) _) | exact HKV.out _ ((Below.refl V.heap.size V).alloc (Nat.le_refl _) _).drew) (fail)
  go_wp2
  go_quiet (fail)
  go_wp2
  go_returns
  exact ⟨rfl, ((((((Onl.of_below HV.out.2).set (S := fun b => b = C) rfl).set rfl).alloc _).drewN _).set rfl), (((((HV.out.1.set _ _).set _ _).alloc _).drewN _).set _ _)⟩
theorem rstep_yes (R C ca n q g o pl pc g1 o1 bl bc g2 o2 il ic k b j : Nat) (ob an : Int) (rg : List Int) (i : Ins) (r : Rq) (cs : List Value) (w : World) (h : StpQ R C ca n q g o pl pc g1 o1 bl bc g2 o2 il ic k b j ob an rg i r cs w) (a : Nat) (v : Int) (ha : i.a = (a : Int)) (hr : rg[a]? = some v) (hv : ¬ v = 0) (hop : i.op = 9) : Calls Tryz.prog 33 #[.pointer (some ⟨R, 0, none⟩)] w fun e w' => e = .returned (.tuple #[]) ∧ Onl (fun b => b = C) w w' ∧ Bk w' C 109 ((((cs.set (n * 6 + 4) (.int .i64 ((j : Int) + 1))).set (n * 6 + 3) (.int .i64 i.el)).set (n * 6 + 3) (.int .i64 i.to)).set (n * 6 + 4) (.int .i64 0)) := by
  have H : Hid (StpQ R C ca n q g o pl pc g1 o1 bl bc g2 o2 il ic k b j ob an rg i r cs w) := h
  have HKS : Hid (∀ W, Below w.heap.size w W → W.cell? ⟨R, 0, none⟩ = some (.slice (some ⟨g, o, none⟩) pl pc) ∧ W.cell? ⟨C, n * 6, none⟩ = some (.int .i64 (k : Nat)) ∧ W.cell? ⟨g, o + k * 5 + 4, none⟩ = some (.slice (some ⟨g1, o1, none⟩) bl bc) ∧ W.cell? ⟨C, n * 6 + 3, none⟩ = some (.int .i64 (b : Nat)) ∧ W.cell? ⟨g1, o1 + b, none⟩ = some (.slice (some ⟨g2, o2, none⟩) il ic) ∧ W.cell? ⟨C, n * 6 + 4, none⟩ = some (.int .i64 (j : Nat)) ∧ W.cell? ⟨g2, o2 + j * 9, none⟩ = some (.int .i64 i.op) ∧ W.cell? ⟨g2, o2 + j * 9 + 1, none⟩ = some (.int .i64 i.d) ∧ W.cell? ⟨g2, o2 + j * 9 + 2, none⟩ = some (.int .i64 i.a) ∧ W.cell? ⟨g2, o2 + j * 9 + 3, none⟩ = some (.int .i64 i.b) ∧ W.cell? ⟨g2, o2 + j * 9 + 4, none⟩ = some (.int .i64 i.n) ∧ W.cell? ⟨g2, o2 + j * 9 + 5, none⟩ = some (.string i.nm) ∧ W.cell? ⟨g2, o2 + j * 9 + 6, none⟩ = some (.slice i.ar i.gs.length i.ac) ∧ W.cell? ⟨g2, o2 + j * 9 + 7, none⟩ = some (.int .i64 i.to) ∧ W.cell? ⟨g2, o2 + j * 9 + 8, none⟩ = some (.int .i64 i.el)) := fun W hW => by
    have hc := h.bkc.below hW
    have ce : ∀ (t : Nat) (v : Value), (inC i)[t]? = some v → W.cell? ⟨g2, o2 + j * 9 + t, none⟩ = some v := fun t v ht => (World.cell?_of_block (hW.block g2 (World.block_lt_of_cell? _ _ (h.ce t v ht)))).trans (h.ce t v ht)
    exact ⟨(h.rb.below hW).cell (j := 0) (by rw [← h.pg]; rfl), hc.cell (j := n * 6) (h.fc 0 _ rfl), (World.cell?_of_block (hW.block g (World.block_lt_of_cell? _ _ h.f4))).trans h.f4, hc.cell (h.fc 3 _ rfl), (World.cell?_of_block (hW.block g1 (World.block_lt_of_cell? _ _ h.y0))).trans h.y0, hc.cell (h.fc 4 _ rfl), ce 0 _ rfl, ce 1 _ rfl, ce 2 _ rfl, ce 3 _ rfl, ce 4 _ rfl, ce 5 _ rfl, ce 6 _ rfl, ce 7 _ rfl, ce 8 _ rfl⟩
  have r4 := h.rb.cell (j := 4) (v := .slice (some ⟨C, 0, none⟩) (n + 1) ca) (by rw [← h.cv]; rfl)
  have hkI : (k : Int) < pl := by have := h.hk; omega
  have hbI : (b : Int) < bl := by have := h.hb; omega
  have hjI : (j : Int) < il := by have := h.hj; omega
  have e0 := wrapN n (by have := h.hn; omega)
  have e1 : IntKind.i64.wrap ((n : Int) + 1 - 1) = n := by rw [wrapI _ (by have := h.hn; omega) (by have := h.hn; omega)]; omega
  have ej := wrapN1 j (by have := h.hj2; omega)
  have lC := h.bkc.lt
  have lR := h.rb.lt
  have nRC : ¬ R = C := h.rb.ne h.bkc (by decide)
  have nCR : ¬ C = R := fun e => nRC e.symm
  have zc : ∀ t, w.frozen? ⟨C, t, none⟩ = false := h.bkc.fz
  have cj : w.cell? ⟨C, n * 6 + 4, none⟩ = some (.int .i64 (j : Nat)) := h.bkc.cell (h.fc 4 _ rfl)
  have HRg : Hid (rg[a]? = some v) := hr
  have nqC : ¬ q = C := h.rgb.ne h.bkc (by decide)
  have nCq : ¬ C = q := fun e => nqC e.symm
  have haI : (a : Int) < rg.length := by have := (List.getElem?_eq_some_iff.1 hr).1; omega
  clear h
  go_enter Tryz.func33, Tryz.ntmps33
  go_wp2
  go_quiet (fail)
  go_wp2
  have HKV : Hid (∀ W, Below (w.drewN nq).heap.size (w.drewN nq) W → W.cell? ⟨R, 0, none⟩ = some (.slice (some ⟨g, o, none⟩) pl pc) ∧ W.cell? ⟨C, n * 6, none⟩ = some (.int .i64 (k : Nat)) ∧ W.cell? ⟨g, o + k * 5 + 4, none⟩ = some (.slice (some ⟨g1, o1, none⟩) bl bc) ∧ W.cell? ⟨C, n * 6 + 3, none⟩ = some (.int .i64 (b : Nat)) ∧ W.cell? ⟨g1, o1 + b, none⟩ = some (.slice (some ⟨g2, o2, none⟩) il ic) ∧ W.cell? ⟨C, n * 6 + 4, none⟩ = some (.int .i64 (j : Nat)) ∧ W.cell? ⟨g2, o2 + j * 9, none⟩ = some (.int .i64 i.op) ∧ W.cell? ⟨g2, o2 + j * 9 + 1, none⟩ = some (.int .i64 i.d) ∧ W.cell? ⟨g2, o2 + j * 9 + 2, none⟩ = some (.int .i64 i.a) ∧ W.cell? ⟨g2, o2 + j * 9 + 3, none⟩ = some (.int .i64 i.b) ∧ W.cell? ⟨g2, o2 + j * 9 + 4, none⟩ = some (.int .i64 i.n) ∧ W.cell? ⟨g2, o2 + j * 9 + 5, none⟩ = some (.string i.nm) ∧ W.cell? ⟨g2, o2 + j * 9 + 6, none⟩ = some (.slice i.ar i.gs.length i.ac) ∧ W.cell? ⟨g2, o2 + j * 9 + 7, none⟩ = some (.int .i64 i.to) ∧ W.cell? ⟨g2, o2 + j * 9 + 8, none⟩ = some (.int .i64 i.el)) := fun W hW => HKS.out W ((below_drewN (Below.refl _ _) nq).trans hW)
  have HV : Hid (Bk (w.drewN nq) C 109 cs ∧ Below w.heap.size w (w.drewN nq)) := ⟨H.out.bkc.drewN nq, below_drewN (Below.refl _ _) nq⟩
  have lCV : C < (w.drewN nq).heap.size := lC
  have lRV : R < (w.drewN nq).heap.size := lR
  have cjV : (w.drewN nq).cell? ⟨C, n * 6 + 4, none⟩ = some (.int .i64 (j : Nat)) := cj
  have cbV : (w.drewN nq).cell? ⟨C, n * 6 + 3, none⟩ = some (.int .i64 (b : Nat)) := H.out.bkc.cell (H.out.fc 3 _ rfl)
  have crV : (w.drewN nq).cell? ⟨C, n * 6 + 1, none⟩ = some (.slice (some ⟨q, 0, none⟩) rg.length rg.length) := H.out.bkc.cell (H.out.fc 1 _ rfl)
  have zcV : ∀ t, (w.drewN nq).frozen? ⟨C, t, none⟩ = false := zc
  have qvV : (w.drewN nq).cell? ⟨q, a, none⟩ = some (.int .i64 v) := H.out.rgb.cell (by rw [List.getElem?_map, HRg.out]; rfl)
  have lqV : q < (w.drewN nq).heap.size := H.out.rgb.lt
  clear r4 cj zc
  generalize hV : w.drewN nq = V at *
  clear hV
  go_region_held3 (fun W => W.cell? ⟨R, 0, none⟩ = some (.slice (some ⟨g, o, none⟩) pl pc) ∧ W.cell? ⟨C, n * 6, none⟩ = some (.int .i64 (k : Nat)) ∧ W.cell? ⟨g, o + k * 5 + 4, none⟩ = some (.slice (some ⟨g1, o1, none⟩) bl bc) ∧ W.cell? ⟨C, n * 6 + 3, none⟩ = some (.int .i64 (b : Nat)) ∧ W.cell? ⟨g1, o1 + b, none⟩ = some (.slice (some ⟨g2, o2, none⟩) il ic) ∧ W.cell? ⟨C, n * 6 + 4, none⟩ = some (.int .i64 (j : Nat)) ∧ W.cell? ⟨g2, o2 + j * 9, none⟩ = some (.int .i64 i.op) ∧ W.cell? ⟨g2, o2 + j * 9 + 1, none⟩ = some (.int .i64 i.d) ∧ W.cell? ⟨g2, o2 + j * 9 + 2, none⟩ = some (.int .i64 i.a) ∧ W.cell? ⟨g2, o2 + j * 9 + 3, none⟩ = some (.int .i64 i.b) ∧ W.cell? ⟨g2, o2 + j * 9 + 4, none⟩ = some (.int .i64 i.n) ∧ W.cell? ⟨g2, o2 + j * 9 + 5, none⟩ = some (.string i.nm) ∧ W.cell? ⟨g2, o2 + j * 9 + 6, none⟩ = some (.slice i.ar i.gs.length i.ac) ∧ W.cell? ⟨g2, o2 + j * 9 + 7, none⟩ = some (.int .i64 i.to) ∧ W.cell? ⟨g2, o2 + j * 9 + 8, none⟩ = some (.int .i64 i.el)) (first | exact HKV.out _ (Below.refl _ _).drew | exact HKV.out _ ((Below.refl V.heap.size V).alloc (Nat.le_refl _) _) | exact HKV.out _ ((Below.refl V.heap.size V).drew.alloc (Nat.le_refl _) _) | exact HKV.out _ ((Below.refl V.heap.size V).alloc (Nat.le_refl _) _).drew) (fail)
  go_wp2
  go_quiet (fail)
  go_wp2
  go_returns
  exact ⟨rfl, (((((((Onl.of_below HV.out.2).set (S := fun b => b = C) rfl).set rfl).alloc _).drewN _).set rfl).set rfl), ((((((HV.out.1.set _ _).set _ _).alloc _).drewN _).set _ _).set _ _)⟩
end
section
open Go.RowKit Go.Shelf
set_option maxRecDepth 20000
set_option maxHeartbeats 4000000
theorem rstep_trap (R C ca n q g o pl pc g1 o1 bl bc g2 o2 il ic k b j : Nat) (ob an : Int) (rg : List Int) (i : Ins) (r : Rq) (cs : List Value) (w : World) (h : StpQ R C ca n q g o pl pc g1 o1 bl bc g2 o2 il ic k b j ob an rg i r cs w) (hop : i.op = 11) {Q : World → Prop} (hd : ∀ W, SteQ C n j cs w W → Calls Tryz.prog 32 #[.pointer (some ⟨R, 0, none⟩), .int .i64 1, .int .i64 i.n] W fun e w' => e = .returned (.tuple #[]) ∧ Q w') : Calls Tryz.prog 33 #[.pointer (some ⟨R, 0, none⟩)] w fun e w' => e = .returned (.tuple #[]) ∧ Q w' := by
  have H : Hid (StpQ R C ca n q g o pl pc g1 o1 bl bc g2 o2 il ic k b j ob an rg i r cs w) := h
  have HKS : Hid (∀ W, Below w.heap.size w W → Kx C R n g o pl pc k g1 o1 bl bc b g2 o2 il ic j i W) := fun W hW => by
    have hc := h.bkc.below hW
    have ce : ∀ (t : Nat) (v : Value), (inC i)[t]? = some v → W.cell? ⟨g2, o2 + j * 9 + t, none⟩ = some v := fun t v ht => (World.cell?_of_block (hW.block g2 (World.block_lt_of_cell? _ _ (h.ce t v ht)))).trans (h.ce t v ht)
    exact ⟨(h.rb.below hW).cell (j := 0) (by rw [← h.pg]; rfl), hc.cell (j := n * 6) (h.fc 0 _ rfl), (World.cell?_of_block (hW.block g (World.block_lt_of_cell? _ _ h.f4))).trans h.f4, hc.cell (h.fc 3 _ rfl), (World.cell?_of_block (hW.block g1 (World.block_lt_of_cell? _ _ h.y0))).trans h.y0, hc.cell (h.fc 4 _ rfl), ce 0 _ rfl, ce 1 _ rfl, ce 2 _ rfl, ce 3 _ rfl, ce 4 _ rfl, ce 5 _ rfl, ce 6 _ rfl, ce 7 _ rfl, ce 8 _ rfl⟩
  have r4 := h.rb.cell (j := 4) (v := .slice (some ⟨C, 0, none⟩) (n + 1) ca) (by rw [← h.cv]; rfl)
  have hkI : (k : Int) < pl := by have := h.hk; omega
  have hbI : (b : Int) < bl := by have := h.hb; omega
  have hjI : (j : Int) < il := by have := h.hj; omega
  have e0 := wrapN n (by have := h.hn; omega)
  have e1 : IntKind.i64.wrap ((n : Int) + 1 - 1) = n := by rw [wrapI _ (by have := h.hn; omega) (by have := h.hn; omega)]; omega
  have ej := wrapN1 j (by have := h.hj2; omega)
  have lC := h.bkc.lt
  have lR := h.rb.lt
  have nRC : ¬ R = C := h.rb.ne h.bkc (by decide)
  have nCR : ¬ C = R := fun e => nRC e.symm
  have zc : ∀ t, w.frozen? ⟨C, t, none⟩ = false := h.bkc.fz
  have cj : w.cell? ⟨C, n * 6 + 4, none⟩ = some (.int .i64 (j : Nat)) := h.bkc.cell (h.fc 4 _ rfl)
  have HD : Hid (∀ W, SteQ C n j cs w W → Calls Tryz.prog 32 #[.pointer (some ⟨R, 0, none⟩), .int .i64 1, .int .i64 i.n] W fun e w' => e = .returned (.tuple #[]) ∧ Q w') := hd
  clear hd
  clear h
  go_enter Tryz.func33, Tryz.ntmps33
  go_wp2
  go_quiet (fail)
  go_wp2
  have HKV : Hid (∀ W, Below (w.drewN nq).heap.size (w.drewN nq) W → Kx C R n g o pl pc k g1 o1 bl bc b g2 o2 il ic j i W) := fun W hW => HKS.out W ((below_drewN (Below.refl _ _) nq).trans hW)
  have HV : Hid (Bk (w.drewN nq) C 109 cs ∧ Below w.heap.size w (w.drewN nq)) := ⟨H.out.bkc.drewN nq, below_drewN (Below.refl _ _) nq⟩
  have lCV : C < (w.drewN nq).heap.size := lC
  have lRV : R < (w.drewN nq).heap.size := lR
  have cjV : (w.drewN nq).cell? ⟨C, n * 6 + 4, none⟩ = some (.int .i64 (j : Nat)) := cj
  have cbV : (w.drewN nq).cell? ⟨C, n * 6 + 3, none⟩ = some (.int .i64 (b : Nat)) := H.out.bkc.cell (H.out.fc 3 _ rfl)
  have crV : (w.drewN nq).cell? ⟨C, n * 6 + 1, none⟩ = some (.slice (some ⟨q, 0, none⟩) rg.length rg.length) := H.out.bkc.cell (H.out.fc 1 _ rfl)
  have zcV : ∀ t, (w.drewN nq).frozen? ⟨C, t, none⟩ = false := zc
  clear r4 cj zc
  generalize hV : w.drewN nq = V at *
  clear hV
  go_region_held3 (fun W => Kx C R n g o pl pc k g1 o1 bl bc b g2 o2 il ic j i W) (first | exact HKV.out _ (Below.refl _ _).drew | exact HKV.out _ ((Below.refl V.heap.size V).alloc (Nat.le_refl _) _) | exact HKV.out _ ((Below.refl V.heap.size V).drew.alloc (Nat.le_refl _) _) | exact HKV.out _ ((Below.refl V.heap.size V).alloc (Nat.le_refl _) _).drew) (fail)
  go_wp2_with fail
  refine (HD.out _ (by (first | exact (SteQ.of HV.out.2 HV.out.1).then (((Below.refl _ _).alloc (Nat.le_refl _) _).drew) | exact (SteQ.of HV.out.2 HV.out.1).then ((Below.refl _ _).alloc (Nat.le_refl _) _)))).mono ?_
  rintro e w1 ⟨rfl, hq⟩
  go_wp2
  go_returns
  exact ⟨rfl, hq⟩
end
section
open Go.RowKit Go.Shelf
variable {p : List Fun} {pp : Option Addr} {pc : Nat} {L : List UInt8} {W0 : World} {R : Nat} {r : Rq} {C ca P pa : Nat} {go : List (Nat × Ob)} {W : World} {s : Rt} {tq : Nat} {lq : List (Nat × (Cal × Nat))} {f : Fun} {bl : Blk} {i : Ins}
/-- What a run leaves that has ended. -/
def EndX (n : Nat) (W0 : World) (R : Nat) (W : World) (o : Oc) : Prop := ∃ r cp cc, Below W0.heap.size W0 W ∧ W0.heap.size ≤ R ∧ Rqb W R r ∧ r.en = o.en ∧ r.cd = o.cd ∧ r.ovr = true ∧ r.st = (o.st : Int) + (if o.en = 2 then 1 else 0) ∧ (o.en = 2 → r.cv = .slice cp n cc) ∧ W.ownsRow W0.heap.size 5 1 r.ov o.out.length (Lib.byteCells o.out)
def OutX (p : List Fun) (pp : Option Addr) (pc : Nat) (L : List UInt8) (n : Nat) (W0 : World) (R : Nat) (W : World) : Rt ⊕ Oc → Prop
  | .inl s => ∃ r C ca P pa gl go, RelX p pp pc L W0 R r C ca P pa gl go W s
  | .inr o => EndX n W0 R W o
theorem RelX.stop {gl : List (Nat × (Cal × Nat))} (h : RelX p pp pc L W0 R r C ca P pa gl go W s) {W' : World} {en cd : Int} (n : Nat) (he : ¬ en = 2) (ho : Onl (fun b => b = R) W W') (hR : Rqb W' R { r with en := en, cd := cd, ovr := true }) : EndX n W0 R W' ⟨en, cd, s.out, s.st⟩ :=
  ⟨_, none, 0, Onl.below (Nat.le_refl _) h.bel ho (fun b e => by rw [e]; exact h.rB), h.rB, hR, rfl, rfl, rfl, by show r.st = (s.st : Int) + _; rw [h.st, if_neg he, Int.add_zero], fun e => absurd e he, h.ovk ho (fun b e => .inl e)⟩
theorem RelX.stop2 {gl : List (Nat × (Cal × Nat))} (h : RelX p pp pc L W0 R r C ca P pa gl go W s) {W' : World} {cd : Int} {k : Nat} (hk : s.st = k + 1) (ho : Onl (fun b => b = R) W W') (hR : Rqb W' R { r with en := 2, cd := cd, ovr := true }) : EndX gl.length W0 R W' ⟨2, cd, s.out, k⟩ :=
  ⟨_, _, _, Onl.below (Nat.le_refl _) h.bel ho (fun b e => by rw [e]; exact h.rB), h.rB, hR, rfl, rfl, rfl, by show r.st = (k : Int) + _; rw [h.st, hk, if_pos rfl]; omega, fun _ => h.cv, h.ovk ho (fun b e => .inl e)⟩
theorem RelX.regQ (h : RelX p pp pc L W0 R r C ca P pa ((tq, s.top) :: lq) go W s) : RegQ C (lq.length * 6) tq s.top.1.rg W := by
  obtain ⟨c0, cs, hC, _⟩ := h.bC
  obtain ⟨q0, hQ⟩ := h.rg (tq, s.top) (by simp)
  exact ⟨own_cell h.co h.cv (rowX_at _ _ 1 _ rfl), hQ, hQ.ne hC (by decide)⟩
theorem RelX.stpE (h : RelX p pp pc L W0 R r C ca P pa ((tq, s.top) :: lq) go W s) (hI : FunA W0 pp pc p) (hF : FnF f) (hc : CalF p s.top.1 f bl i) (hl : bl.l.length ≤ 4096) (hn : lq.length ≤ 1000000) : ∃ g o g1 o1 bc g2 o2 ic cs, StpQ R C ca lq.length tq g o p.length pc g1 o1 f.bs.length bc g2 o2 bl.l.length ic s.top.1.k s.top.1.b s.top.1.j (s.top.2 : Nat) s.top.1.an s.top.1.rg i r cs W ∧ Bk W C 109 cs ∧ cs.length = ca * 6 ∧ cs.take ((lq.length + 1) * 6) = rowX ((tq, s.top) :: lq) := by
  obtain ⟨c0, cs, hC, h1, h2, h3, h4⟩ := h.bC
  obtain ⟨q0, hQ⟩ := h.rg (tq, s.top) (by simp)
  obtain ⟨g1, o1, bc, g2, o2, ic, hP⟩ := ins_cells hI h.bel hc
  obtain ⟨g, o, e, f0, f1, f2, f3, f4, f5⟩ := fn_cells (hI.below h.bel) hc.hf hF
  have hpg := h.pg
  rw [e] at hpg
  rw [hP.bv] at f5
  rw [← f5] at f4
  have hj := (List.getElem?_eq_some_iff.1 hc.hi).1
  refine ⟨g, o, g1, o1, bc, g2, o2, ic, cs, ⟨h.rb, h.cv, hpg, hC, fun t v ht => ?_, hQ, hn, (List.getElem?_eq_some_iff.1 hc.hf).1, (List.getElem?_eq_some_iff.1 hc.hb).1, hj, by omega, f4, hP.y0, hP.ce, ?_⟩, hC, h4, h1⟩
  · have := rowX_at (tq, s.top) lq t v ht
    rw [← h1, List.getElem?_take] at this
    split at this
    · exact this
    · cases this
  · have := hP.lt
    omega
def topX (s : Rt) : Cal := { s.top.1 with j := s.top.1.j + 1 }
theorem RelX.regX (s : Rt) {W1 : World} (h1 : RelX p pp pc L W0 R r C ca P pa ((tq, (topX s, s.top.2)) :: lq) go W1 { s with top := (topX s, s.top.2) }) : RegQ C (lq.length * 6) tq s.top.1.rg W1 := RelX.regQ (s := { s with top := (topX s, s.top.2) }) h1
theorem stp_do (h : RelX p pp pc L W0 R r C ca P pa ((tq, s.top) :: lq) go W s) (hI : FunA W0 pp pc p) (hF : FnF f) (hc : CalF p s.top.1 f bl i) (hl : bl.l.length ≤ 4096) (hn : lq.length ≤ 1000000) (ho : 1 ≤ i.op ∧ i.op ≤ 7) {Q : World → Prop} (hd : ∀ W1, RelX p pp pc L W0 R r C ca P pa ((tq, (topX s, s.top.2)) :: lq) go W1 { s with top := (topX s, s.top.2) } → Calls Tryz.prog 75 #[.pointer (some ⟨R, 0, none⟩), .pointer (some ⟨C, lq.length * 6, none⟩), inV i] W1 fun e w' => e = .returned (.tuple #[]) ∧ Q w') : Calls Tryz.prog 33 #[.pointer (some ⟨R, 0, none⟩)] W fun e w' => e = .returned (.tuple #[]) ∧ Q w' := by
  obtain ⟨g, o, g1, o1, bc, g2, o2, ic, cs, hS, hC, _⟩ := h.stpE hI hF hc hl hn
  exact rstep_do _ _ _ _ _ _ _ _ _ _ _ _ _ _ _ _ _ _ _ _ _ _ _ _ _ _ _ hS (by omega) (by omega) (by omega) (by omega) (fun W1 h1 => hd W1 (h.ste hC h1))
theorem binR (nm : ByteArray) (h : opB nm.data.toList = true) (a b : Int) (W : World) : Calls Tryz.prog 96 #[.string nm, .int .i64 a, .int .i64 b] W fun e w' => e = .returned (.tuple #[.int .i64 (binV nm.data.toList a b), .bool true]) ∧ w' = W := by
  unfold opB at h
  have h := List.contains_iff_mem.1 h
  simp only [List.mem_cons, List.not_mem_nil, or_false] at h
  rcases h with h | h | h | h | h | h | h | h | h | h | h | h | h | h
  · obtain rfl := nm_of h; exact r_add a b W
  · obtain rfl := nm_of h; exact r_sub a b W
  · obtain rfl := nm_of h; exact r_mul a b W
  · obtain rfl := nm_of h; exact r_mulh a b W
  · obtain rfl := nm_of h; exact r_div a b W
  · obtain rfl := nm_of h; exact r_rem a b W
  · obtain rfl := nm_of h; exact r_and a b W
  · obtain rfl := nm_of h; exact r_or a b W
  · obtain rfl := nm_of h; exact r_xor a b W
  · obtain rfl := nm_of h; exact r_sll a b W
  · obtain rfl := nm_of h; exact r_srl a b W
  · obtain rfl := nm_of h; exact r_sra a b W
  · obtain rfl := nm_of h; exact r_slt a b W
  · obtain rfl := nm_of h; exact r_sltu a b W
variable (h : RelX p pp pc L W0 R r C ca P pa ((tq, s.top) :: lq) go W s) (hI : FunA W0 pp pc p) (hF : FnF f) (hc : CalF p s.top.1 f bl i) (hl : bl.l.length ≤ 4096) (hn : lq.length ≤ 1000000) (hi : InsF f.h i (fdF p i.nm))
include h hI hF hc hl hn hi
theorem xs_const (hop : i.op = 1) (n : Nat) : Calls Tryz.prog 33 #[.pointer (some ⟨R, 0, none⟩)] W fun e w' => e = .returned (.tuple #[]) ∧ OutX p pp pc L n W0 R w' (stpR p s i) := by
  obtain ⟨d, u, e1, hu, _, _, _, _⟩ := reg_at hc (hi.dd (by omega))
  refine stp_do h hI hF hc hl hn (by omega) (fun W1 h1 => (rdoes_const R C _ tq d u _ i W1 hop e1 (RelX.regX s h1) hu).mono ?_)
  rintro e w' ⟨rfl, hq⟩
  refine ⟨rfl, ?_⟩
  unfold stpR
  rw [if_pos hop, e1, setR_nat]
  exact ⟨_, _, _, _, _, _, _, RelX.put (s := { s with top := (topX s, s.top.2) }) h1 hq⟩
theorem xs_move (hop : i.op = 2) (n : Nat) : Calls Tryz.prog 33 #[.pointer (some ⟨R, 0, none⟩)] W fun e w' => e = .returned (.tuple #[]) ∧ OutX p pp pc L n W0 R w' (stpR p s i) := by
  obtain ⟨d, u, e1, hu, _, _, _, _⟩ := reg_at hc (hi.dd (by omega))
  obtain ⟨a, v, e2, hv, gv, _, _, _⟩ := reg_at hc (hi.aa (by omega))
  refine stp_do h hI hF hc hl hn (by omega) (fun W1 h1 => (rdoes_move R C _ tq d a u v _ i W1 hop e1 e2 (RelX.regX s h1) hu hv).mono ?_)
  rintro e w' ⟨rfl, hq⟩
  refine ⟨rfl, ?_⟩
  unfold stpR
  rw [if_neg (by omega), if_pos hop, e1, setR_nat]
  have e : getR { s.top.1 with j := s.top.1.j + 1 } i.a = v := gv
  simp only [e]
  exact ⟨_, _, _, _, _, _, _, RelX.put (s := { s with top := (topX s, s.top.2) }) h1 hq⟩
theorem xs_bin (hop : i.op = 3) (n : Nat) : Calls Tryz.prog 33 #[.pointer (some ⟨R, 0, none⟩)] W fun e w' => e = .returned (.tuple #[]) ∧ OutX p pp pc L n W0 R w' (stpR p s i) := by
  obtain ⟨d, u, e1, hu, _, _, _, _⟩ := reg_at hc (hi.dd (by omega))
  obtain ⟨a, v, e2, hv, gv, _, _, _⟩ := reg_at hc (hi.aa (by omega))
  obtain ⟨b, x, e3, hx, gx, _, _, _⟩ := reg_at hc (hi.bb (by omega))
  refine stp_do h hI hF hc hl hn (by omega) (fun W1 h1 => (rdoes_bin R C _ tq d a b u v x _ _ i W1 hop e1 e2 e3 (RelX.regX s h1) hu hv hx (fun W => binR i.nm (hi.nm hop) v x W)).mono ?_)
  rintro e w' ⟨rfl, hq⟩
  refine ⟨rfl, ?_⟩
  unfold stpR
  rw [if_neg (by omega), if_neg (by omega), if_pos hop, e1, setR_nat]
  have e : getR { s.top.1 with j := s.top.1.j + 1 } i.a = v := gv
  have e' : getR { s.top.1 with j := s.top.1.j + 1 } i.b = x := gx
  simp only [e, e']
  exact ⟨_, _, _, _, _, _, _, RelX.put (s := { s with top := (topX s, s.top.2) }) h1 hq⟩
theorem xs_frame (hO : ObF p s.os s.top) (hop : i.op = 6) (n : Nat) : Calls Tryz.prog 33 #[.pointer (some ⟨R, 0, none⟩)] W fun e w' => e = .returned (.tuple #[]) ∧ OutX p pp pc L n W0 R w' (stpR p s i) := by
  obtain ⟨d, u, e1, hu, _, _, _, _⟩ := reg_at hc (hi.dd (by omega))
  obtain ⟨o, ho, _, _, had, _⟩ := hO
  refine stp_do h hI hF hc hl hn (by omega) (fun W1 h1 => ?_)
  have hg : ∃ x, go[s.top.2]? = some x ∧ x.2 = o := by
    have := h1.os
    have e : go.map (·.2) = s.os := this
    rw [← e, List.getElem?_map] at ho
    obtain ⟨x, hx, ex⟩ := Option.map_eq_some_iff.1 ho
    exact ⟨x, hx, ex⟩
  obtain ⟨x, hx, ex⟩ := hg
  have h3 := h1.rb.cell (j := 3) (v := .slice (some ⟨P, 0, none⟩) go.length pa) (by rw [← h1.pv]; rfl)
  have h2 : W1.cell? ⟨C, lq.length * 6 + 2, none⟩ = some (.int .i64 ((s.top.2 : Nat) : Int)) := own_cell h1.co h1.cv (rowX_at _ _ 2 _ rfl)
  have hP := h1.obA s.top.2 x hx 0 _ rfl
  rw [Nat.add_zero, ex, had] at hP
  refine (rdoes_frame R C _ tq P go.length pa d s.top.2 u s.top.1.fr _ i W1 hop e1 (RelX.regX s h1) hu h3 h2 (List.getElem?_eq_some_iff.1 hx).1 hP).mono ?_
  rintro e w' ⟨rfl, hq⟩
  refine ⟨rfl, ?_⟩
  unfold stpR
  rw [if_neg (by omega), if_neg (by omega), if_neg (by omega), if_neg (by omega), if_neg (by omega), if_pos hop, e1, setR_nat]
  exact ⟨_, _, _, _, _, _, _, RelX.put (s := { s with top := (topX s, s.top.2) }) h1 hq⟩
theorem xs_jump (hop : i.op = 8) (n : Nat) : Calls Tryz.prog 33 #[.pointer (some ⟨R, 0, none⟩)] W fun e w' => e = .returned (.tuple #[]) ∧ OutX p pp pc L n W0 R w' (stpR p s i) := by
  obtain ⟨g, o, g1, o1, bc, g2, o2, ic, cs, hS, hC, hl4, ht⟩ := h.stpE hI hF hc hl hn
  refine (rstep_jump _ _ _ _ _ _ _ _ _ _ _ _ _ _ _ _ _ _ _ _ _ _ _ _ _ _ _ hS hop).mono ?_
  rintro e w' ⟨rfl, ho, hb⟩
  refine ⟨rfl, ?_⟩
  have hto := hi.to (by omega)
  unfold stpR
  rw [if_neg (by omega), if_neg (by omega), if_neg (by omega), if_neg (by omega), if_neg (by omega), if_neg (by omega), if_neg (by omega), if_pos hop]
  refine ⟨_, _, _, _, _, _, _, h.cell (c := { s.top.1 with b := i.to.toNat, j := 0 }) ho rfl hb (by simpa using hl4) ?_⟩
  rw [List.take_set, List.take_set, List.take_set, ht]
  rw [show rowX ((tq, s.top) :: lq) = rowX lq ++ cafX (tq, s.top) from rfl, rowX]
  rw [List.set_append_right _ _ (by rw [rowX_len]; omega), List.set_append_right _ _ (by rw [rowX_len]; omega), List.set_append_right _ _ (by rw [rowX_len]; omega), rowX_len, show lq.length * 6 + 4 - lq.length * 6 = 4 by omega, show lq.length * 6 + 3 - lq.length * 6 = 3 by omega]
  simp [cafX, fmC]
  omega
theorem xs_if (hop : i.op = 9) (n : Nat) : Calls Tryz.prog 33 #[.pointer (some ⟨R, 0, none⟩)] W fun e w' => e = .returned (.tuple #[]) ∧ OutX p pp pc L n W0 R w' (stpR p s i) := by
  obtain ⟨g, o, g1, o1, bc, g2, o2, ic, cs, hS, hC, hl4, ht⟩ := h.stpE hI hF hc hl hn
  obtain ⟨a, v, e2, hv, gv, _, _, _⟩ := reg_at hc (hi.aa (by omega))
  have hto := hi.to (by omega)
  have hel := hi.el hop
  have e : getR { s.top.1 with j := s.top.1.j + 1 } i.a = v := gv
  by_cases hv0 : v = 0
  · subst hv0
    refine (rstep_no _ _ _ _ _ _ _ _ _ _ _ _ _ _ _ _ _ _ _ _ _ _ _ _ _ _ _ hS a e2 hv hop).mono ?_
    rintro _ w' ⟨rfl, ho, hb⟩
    refine ⟨rfl, ?_⟩
    unfold stpR
    rw [if_neg (by omega), if_neg (by omega), if_neg (by omega), if_neg (by omega), if_neg (by omega), if_neg (by omega), if_neg (by omega), if_neg (by omega), if_pos hop]
    simp only [e, if_true]
    refine ⟨_, _, _, _, _, _, _, h.cell (c := { s.top.1 with b := i.el.toNat, j := 0 }) ho rfl hb (by simpa using hl4) ?_⟩
    rw [List.take_set, List.take_set, List.take_set, ht]
    rw [show rowX ((tq, s.top) :: lq) = rowX lq ++ cafX (tq, s.top) from rfl, rowX]
    rw [List.set_append_right _ _ (by rw [rowX_len]; omega), List.set_append_right _ _ (by rw [rowX_len]; omega), List.set_append_right _ _ (by rw [rowX_len]; omega), rowX_len, show lq.length * 6 + 4 - lq.length * 6 = 4 by omega, show lq.length * 6 + 3 - lq.length * 6 = 3 by omega]
    simp [cafX, fmC]
    omega
  · refine (rstep_yes _ _ _ _ _ _ _ _ _ _ _ _ _ _ _ _ _ _ _ _ _ _ _ _ _ _ _ hS a v e2 hv hv0 hop).mono ?_
    rintro _ w' ⟨rfl, ho, hb⟩
    refine ⟨rfl, ?_⟩
    unfold stpR
    rw [if_neg (by omega), if_neg (by omega), if_neg (by omega), if_neg (by omega), if_neg (by omega), if_neg (by omega), if_neg (by omega), if_neg (by omega), if_pos hop]
    simp only [e, if_neg hv0]
    refine ⟨_, _, _, _, _, _, _, h.cell (c := { s.top.1 with b := i.to.toNat, j := 0 }) ho rfl hb (by simpa using hl4) ?_⟩
    rw [List.take_set, List.take_set, List.take_set, List.take_set, ht]
    rw [show rowX ((tq, s.top) :: lq) = rowX lq ++ cafX (tq, s.top) from rfl, rowX]
    rw [List.set_append_right _ _ (by rw [rowX_len]; omega), List.set_append_right _ _ (by rw [rowX_len]; omega), List.set_append_right _ _ (by rw [rowX_len]; omega), List.set_append_right _ _ (by rw [rowX_len]; omega), rowX_len, show lq.length * 6 + 4 - lq.length * 6 = 4 by omega, show lq.length * 6 + 3 - lq.length * 6 = 3 by omega]
    simp [cafX, fmC]
    omega
omit hi in
theorem xs_trap (hop : i.op = 11) (n : Nat) : Calls Tryz.prog 33 #[.pointer (some ⟨R, 0, none⟩)] W fun e w' => e = .returned (.tuple #[]) ∧ OutX p pp pc L n W0 R w' (stpR p s i) := by
  obtain ⟨g, o, g1, o1, bc, g2, o2, ic, cs, hS, hC, hl4, ht⟩ := h.stpE hI hF hc hl hn
  refine rstep_trap _ _ _ _ _ _ _ _ _ _ _ _ _ _ _ _ _ _ _ _ _ _ _ _ _ _ _ hS hop (fun W1 h1 => (rstop32 R 1 i.n r W1 (h.ste hC h1).rb).mono ?_)
  rintro e w' ⟨rfl, ho, hr⟩
  refine ⟨rfl, ?_⟩
  unfold stpR
  rw [if_neg (by omega), if_neg (by omega), if_neg (by omega), if_neg (by omega), if_neg (by omega), if_neg (by omega), if_neg (by omega), if_neg (by omega), if_neg (by omega), if_neg (by omega)]
  exact (h.ste hC h1).stop n (by decide) ho hr
end
end Go.Proofs.YtdppoblbenbafaaGreatDoor
