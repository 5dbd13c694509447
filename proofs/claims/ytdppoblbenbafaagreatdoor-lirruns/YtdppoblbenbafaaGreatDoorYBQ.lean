/- The document's own step. One step of the document's: calls of the program's own functions; returns. -/
import Derived.Test.YtdppoblbenbafaaGreatDoorYBD
import Derived.Test.YtdppoblbenbafaaGreatDoorYBA
import Derived.Deep.RegionHeld3
import Derived.Test.YtdppoblbenbafaaGreatDoorYBP
namespace Go.Proofs.YtdppoblbenbafaaGreatDoor
section
open Go.RowKit Go.Shelf
set_option maxRecDepth 20000
set_option maxHeartbeats 4000000
theorem rstep_ret (R C ca n q g o pl pc g1 o1 bl bc g2 o2 il ic k b j : Nat) (ob an : Int) (rg : List Int) (i : Ins) (r : Rq) (cs : List Value) (w : World) (h : StpQ R C ca n q g o pl pc g1 o1 bl bc g2 o2 il ic k b j ob an rg i r cs w) (a : Nat) (v : Int) (ha : i.a = (a : Int)) (hr : rg[a]? = some v) (hop : i.op = 10) {Q : World → Prop} (hd : ∀ W, SteQ C n j cs w W → Calls Tryz.prog 74 #[.pointer (some ⟨R, 0, none⟩), .int .i64 v] W fun e w' => e = .returned (.tuple #[]) ∧ Q w') : Calls Tryz.prog 33 #[.pointer (some ⟨R, 0, none⟩)] w fun e w' => e = .returned (.tuple #[]) ∧ Q w' := by
  have H : Hid (StpQ R C ca n q g o pl pc g1 o1 bl bc g2 o2 il ic k b j ob an rg i r cs w) := h
  have HKS : Hid (∀ W, Below w.heap.size w W → W.cell? ⟨R, 0, none⟩ = some (.slice (some ⟨g, o, none⟩) pl pc) ∧ W.cell? ⟨C, n * 6, none⟩ = some (.int .i64 (k : Nat)) ∧ W.cell? ⟨g, o + k * 5 + 4, none⟩ = some (.slice (some ⟨g1, o1, none⟩) bl bc) ∧ W.cell? ⟨C, n * 6 + 3, none⟩ = some (.int .i64 (b : Nat)) ∧ W.cell? ⟨g1, o1 + b, none⟩ = some (.slice (some ⟨g2, o2, none⟩) il ic) ∧ W.cell? ⟨C, n * 6 + 4, none⟩ = some (.int .i64 (j : Nat)) ∧ W.cell? ⟨g2, o2 + j * 9, none⟩ = some (.int .i64 i.op) ∧ W.cell? ⟨g2, o2 + j * 9 + 1, none⟩ = some (.int .i64 i.d) ∧ W.cell? ⟨g2, o2 + j * 9 + 2, none⟩ = some (.int .i64 i.a) ∧ W.cell? ⟨g2, o2 + j * 9 + 3, none⟩ = some (.int .i64 i.b) ∧ W.cell? ⟨g2, o2 + j * 9 + 4, none⟩ = some (.int .i64 i.n) ∧ W.cell? ⟨g2, o2 + j * 9 + 5, none⟩ = some (.string i.nm) ∧ W.cell? ⟨g2, o2 + j * 9 + 6, none⟩ = some (.slice i.ar i.gs.length i.ac) ∧ W.cell? ⟨g2, o2 + j * 9 + 7, none⟩ = some (.int .i64 i.to) ∧ W.cell? ⟨g2, o2 + j * 9 + 8, none⟩ = some (.int .i64 i.el)) := fun W hW => by
    have hc := h.bkc.below hW
    have ce : ∀ (t : Nat) (v : Value), (inC i)[t]? = some v → W.cell? ⟨g2, o2 + j * 9 + t, none⟩ = some v := fun t v ht => (World.cell?_of_block (hW.block g2 (World.block_lt_of_cell? _ _ (h.ce t v ht)))).trans (h.ce t v ht)
    exact ⟨(h.rb.below hW).cell (j := 0) (by rw [← h.pg]; rfl), hc.cell (j := n * 6) (h.fc 0 _ rfl), (World.cell?_of_block (hW.block g (World.block_lt_of_cell? _ _ h.f4))).trans h.f4, hc.cell (h.fc 3 _ rfl), (World.cell?_of_block (hW.block g1 (World.block_lt_of_cell? _ _ h.y0))).trans h.y0, hc.cell (h.fc 4 _ rfl), ce 0 _ rfl, ce 1 _ rfl, ce 2 _ rfl, ce 3 _ rfl, ce 4 _ rfl, ce 5 _ rfl, ce 6 _ rfl, ce 7 _ rfl, ce 8 _ rfl⟩
  have r4 := h.rb.cell (j := 4) (v := .slice (some ⟨C, 0, none⟩) (n + 1) ca) (by rw [← h.cv]; rfl)
  have hkI : (k : Int) < pl := by have := h.hk; omega
  have hbI : (b : Int) < bl := by have := h.hb; omega
  have hjI : (j : Int) < il := by have := h.hj; omega
  have e0 := wrapN n (by have := h.hn; omega)
  have e1 : IntKind.i64.wrap ((n : Int) + 1 - 1) = n := by rw [wrapI _ (by have := h.hn; omega) (by have := h.hn; omega)]; omega
  have ej := wrapN1 j (by have := h.hj2; omega)
  have lC := h.bkc.lt
  have lR := h.rb.lt
  have nRC : ¬ R = C := h.rb.ne h.bkc (by decide)
  have nCR : ¬ C = R := fun e => nRC e.symm
  have zc : ∀ t, w.frozen? ⟨C, t, none⟩ = false := h.bkc.fz
  have cj : w.cell? ⟨C, n * 6 + 4, none⟩ = some (.int .i64 (j : Nat)) := h.bkc.cell (h.fc 4 _ rfl)
  have HRg : Hid (rg[a]? = some v) := hr
  have nqC : ¬ q = C := h.rgb.ne h.bkc (by decide)
  have nCq : ¬ C = q := fun e => nqC e.symm
  have haI : (a : Int) < rg.length := by have := (List.getElem?_eq_some_iff.1 hr).1; omega
  have HD : Hid (∀ W, SteQ C n j cs w W → Calls Tryz.prog 74 #[.pointer (some ⟨R, 0, none⟩), .int .i64 v] W fun e w' => e = .returned (.tuple #[]) ∧ Q w') := hd
  clear hd
  clear h
  go_enter Tryz.func33, Tryz.ntmps33
  go_wp2
  go_quiet (fail)
  go_wp2
  have HKV : Hid (∀ W, Below (w.drewN nq).heap.size (w.drewN nq) W → W.cell? ⟨R, 0, none⟩ = some (.slice (some ⟨g, o, none⟩) pl pc) ∧ W.cell? ⟨C, n * 6, none⟩ = some (.int .i64 (k : Nat)) ∧ W.cell? ⟨g, o + k * 5 + 4, none⟩ = some (.slice (some ⟨g1, o1, none⟩) bl bc) ∧ W.cell? ⟨C, n * 6 + 3, none⟩ = some (.int .i64 (b : Nat)) ∧ W.cell? ⟨g1, o1 + b, none⟩ = some (.slice (some ⟨g2, o2, none⟩) il ic) ∧ W.cell? ⟨C, n * 6 + 4, none⟩ = some (.int .i64 (j : Nat)) ∧ W.cell? ⟨g2, o2 + j * 9, none⟩ = some (.int .i64 i.op) ∧ W.cell? ⟨g2, o2 + j * 9 + 1, none⟩ = some (.int .i64 i.d) ∧ W.cell? ⟨g2, o2 + j * 9 + 2, none⟩ = some (.int .i64 i.a) ∧ W.cell? ⟨g2, o2 + j * 9 + 3, none⟩ = some (.int .i64 i.b) ∧ W.cell? ⟨g2, o2 + j * 9 + 4, none⟩ = some (.int .i64 i.n) ∧ W.cell? ⟨g2, o2 + j * 9 + 5, none⟩ = some (.string i.nm) ∧ W.cell? ⟨g2, o2 + j * 9 + 6, none⟩ = some (.slice i.ar i.gs.length i.ac) ∧ W.cell? ⟨g2, o2 + j * 9 + 7, none⟩ = some (.int .i64 i.to) ∧ W.cell? ⟨g2, o2 + j * 9 + 8, none⟩ = some (.int .i64 i.el)) := fun W hW => HKS.out W ((below_drewN (Below.refl _ _) nq).trans hW)
  have HV : Hid (Bk (w.drewN nq) C 109 cs ∧ Below w.heap.size w (w.drewN nq)) := ⟨H.out.bkc.drewN nq, below_drewN (Below.refl _ _) nq⟩
  have lCV : C < (w.drewN nq).heap.size := lC
  have lRV : R < (w.drewN nq).heap.size := lR
  have cjV : (w.drewN nq).cell? ⟨C, n * 6 + 4, none⟩ = some (.int .i64 (j : Nat)) := cj
  have cbV : (w.drewN nq).cell? ⟨C, n * 6 + 3, none⟩ = some (.int .i64 (b : Nat)) := H.out.bkc.cell (H.out.fc 3 _ rfl)
  have crV : (w.drewN nq).cell? ⟨C, n * 6 + 1, none⟩ = some (.slice (some ⟨q, 0, none⟩) rg.length rg.length) := H.out.bkc.cell (H.out.fc 1 _ rfl)
  have zcV : ∀ t, (w.drewN nq).frozen? ⟨C, t, none⟩ = false := zc
  have qvV : (w.drewN nq).cell? ⟨q, a, none⟩ = some (.int .i64 v) := H.out.rgb.cell (by rw [List.getElem?_map, HRg.out]; rfl)
  have lqV : q < (w.drewN nq).heap.size := H.out.rgb.lt
  clear r4 cj zc
  generalize hV : w.drewN nq = V at *
  clear hV
  go_region_held3 (fun W => W.cell? ⟨R, 0, none⟩ = some (.slice (some ⟨g, o, none⟩) pl pc) ∧ W.cell? ⟨C, n * 6, none⟩ = some (.int .i64 (k : Nat)) ∧ W.cell? ⟨g, o + k * 5 + 4, none⟩ = some (.slice (some ⟨g1, o1, none⟩) bl bc) ∧ W.cell? ⟨C, n * 6 + 3, none⟩ = some (.int .i64 (b : Nat)) ∧ W.cell? ⟨g1, o1 + b, none⟩ = some (.slice (some ⟨g2, o2, none⟩) il ic) ∧ W.cell? ⟨C, n * 6 + 4, none⟩ = some (.int .i64 (j : Nat)) ∧ W.cell? ⟨g2, o2 + j * 9, none⟩ = some (.int .i64 i.op) ∧ W.cell? ⟨g2, o2 + j * 9 + 1, none⟩ = some (.int .i64 i.d) ∧ W.cell? ⟨g2, o2 + j * 9 + 2, none⟩ = some (.int .i64 i.a) ∧ W.cell? ⟨g2, o2 + j * 9 + 3, none⟩ = some (.int .i64 i.b) ∧ W.cell? ⟨g2, o2 + j * 9 + 4, none⟩ = some (.int .i64 i.n) ∧ W.cell? ⟨g2, o2 + j * 9 + 5, none⟩ = some (.string i.nm) ∧ W.cell? ⟨g2, o2 + j * 9 + 6, none⟩ = some (.slice i.ar i.gs.length i.ac) ∧ W.cell? ⟨g2, o2 + j * 9 + 7, none⟩ = some (.int .i64 i.to) ∧ W.cell? ⟨g2, o2 + j * 9 + 8, none⟩ = some (.int .i64 i.el)) (first | exact HKV.out _ (Below.refl _ _).drew | exact HKV.out _ ((Below.refl V.heap.size V).alloc (Nat.le_refl _) _) | exact HKV.out _ ((Below.refl V.heap.size V).drew.alloc (Nat.le_refl _) _) | exact HKV.out _ ((Below.refl V.heap.size V).alloc (Nat.le_refl _) _).drew) (fail)
  go_wp2
  go_quiet (fail)
  go_wp2_with fail
  refine (HD.out _ (by first | exact ((SteQ.of HV.out.2 HV.out.1).then (((Below.refl _ _).alloc (Nat.le_refl _) _).drew)).then (below_drewN (Below.refl _ _) _) | exact (SteQ.of HV.out.2 HV.out.1).then (below_drewN ((Below.refl _ _).alloc (Nat.le_refl _) _) _))).mono ?_
  rintro e w1 ⟨rfl, hq⟩
  go_wp2
  go_returns
  exact ⟨rfl, hq⟩
theorem rstep_ret0 (R C ca n q g o pl pc g1 o1 bl bc g2 o2 il ic k b j : Nat) (ob an : Int) (rg : List Int) (i : Ins) (r : Rq) (cs : List Value) (w : World) (h : StpQ R C ca n q g o pl pc g1 o1 bl bc g2 o2 il ic k b j ob an rg i r cs w) (ha : i.a < 0) (hop : i.op = 10) {Q : World → Prop} (hd : ∀ W, SteQ C n j cs w W → Calls Tryz.prog 74 #[.pointer (some ⟨R, 0, none⟩), .int .i64 0] W fun e w' => e = .returned (.tuple #[]) ∧ Q w') : Calls Tryz.prog 33 #[.pointer (some ⟨R, 0, none⟩)] w fun e w' => e = .returned (.tuple #[]) ∧ Q w' := by
  have H : Hid (StpQ R C ca n q g o pl pc g1 o1 bl bc g2 o2 il ic k b j ob an rg i r cs w) := h
  have HKS : Hid (∀ W, Below w.heap.size w W → W.cell? ⟨R, 0, none⟩ = some (.slice (some ⟨g, o, none⟩) pl pc) ∧ W.cell? ⟨C, n * 6, none⟩ = some (.int .i64 (k : Nat)) ∧ W.cell? ⟨g, o + k * 5 + 4, none⟩ = some (.slice (some ⟨g1, o1, none⟩) bl bc) ∧ W.cell? ⟨C, n * 6 + 3, none⟩ = some (.int .i64 (b : Nat)) ∧ W.cell? ⟨g1, o1 + b, none⟩ = some (.slice (some ⟨g2, o2, none⟩) il ic) ∧ W.cell? ⟨C, n * 6 + 4, none⟩ = some (.int .i64 (j : Nat)) ∧ W.cell? ⟨g2, o2 + j * 9, none⟩ = some (.int .i64 i.op) ∧ W.cell? ⟨g2, o2 + j * 9 + 1, none⟩ = some (.int .i64 i.d) ∧ W.cell? ⟨g2, o2 + j * 9 + 2, none⟩ = some (.int .i64 i.a) ∧ W.cell? ⟨g2, o2 + j * 9 + 3, none⟩ = some (.int .i64 i.b) ∧ W.cell? ⟨g2, o2 + j * 9 + 4, none⟩ = some (.int .i64 i.n) ∧ W.cell? ⟨g2, o2 + j * 9 + 5, none⟩ = some (.string i.nm) ∧ W.cell? ⟨g2, o2 + j * 9 + 6, none⟩ = some (.slice i.ar i.gs.length i.ac) ∧ W.cell? ⟨g2, o2 + j * 9 + 7, none⟩ = some (.int .i64 i.to) ∧ W.cell? ⟨g2, o2 + j * 9 + 8, none⟩ = some (.int .i64 i.el)) := fun W hW => by
    have hc := h.bkc.below hW
    have ce : ∀ (t : Nat) (v : Value), (inC i)[t]? = some v → W.cell? ⟨g2, o2 + j * 9 + t, none⟩ = some v := fun t v ht => (World.cell?_of_block (hW.block g2 (World.block_lt_of_cell? _ _ (h.ce t v ht)))).trans (h.ce t v ht)
    exact ⟨(h.rb.below hW).cell (j := 0) (by rw [← h.pg]; rfl), hc.cell (j := n * 6) (h.fc 0 _ rfl), (World.cell?_of_block (hW.block g (World.block_lt_of_cell? _ _ h.f4))).trans h.f4, hc.cell (h.fc 3 _ rfl), (World.cell?_of_block (hW.block g1 (World.block_lt_of_cell? _ _ h.y0))).trans h.y0, hc.cell (h.fc 4 _ rfl), ce 0 _ rfl, ce 1 _ rfl, ce 2 _ rfl, ce 3 _ rfl, ce 4 _ rfl, ce 5 _ rfl, ce 6 _ rfl, ce 7 _ rfl, ce 8 _ rfl⟩
  have r4 := h.rb.cell (j := 4) (v := .slice (some ⟨C, 0, none⟩) (n + 1) ca) (by rw [← h.cv]; rfl)
  have hkI : (k : Int) < pl := by have := h.hk; omega
  have hbI : (b : Int) < bl := by have := h.hb; omega
  have hjI : (j : Int) < il := by have := h.hj; omega
  have e0 := wrapN n (by have := h.hn; omega)
  have e1 : IntKind.i64.wrap ((n : Int) + 1 - 1) = n := by rw [wrapI _ (by have := h.hn; omega) (by have := h.hn; omega)]; omega
  have ej := wrapN1 j (by have := h.hj2; omega)
  have lC := h.bkc.lt
  have lR := h.rb.lt
  have nRC : ¬ R = C := h.rb.ne h.bkc (by decide)
  have nCR : ¬ C = R := fun e => nRC e.symm
  have zc : ∀ t, w.frozen? ⟨C, t, none⟩ = false := h.bkc.fz
  have cj : w.cell? ⟨C, n * 6 + 4, none⟩ = some (.int .i64 (j : Nat)) := h.bkc.cell (h.fc 4 _ rfl)
  have ha' : ¬ 0 ≤ i.a := by omega
  have HD : Hid (∀ W, SteQ C n j cs w W → Calls Tryz.prog 74 #[.pointer (some ⟨R, 0, none⟩), .int .i64 0] W fun e w' => e = .returned (.tuple #[]) ∧ Q w') := hd
  clear hd
  clear h
  go_enter Tryz.func33, Tryz.ntmps33
  go_wp2
  go_quiet (fail)
  go_wp2
  have HKV : Hid (∀ W, Below (w.drewN nq).heap.size (w.drewN nq) W → W.cell? ⟨R, 0, none⟩ = some (.slice (some ⟨g, o, none⟩) pl pc) ∧ W.cell? ⟨C, n * 6, none⟩ = some (.int .i64 (k : Nat)) ∧ W.cell? ⟨g, o + k * 5 + 4, none⟩ = some (.slice (some ⟨g1, o1, none⟩) bl bc) ∧ W.cell? ⟨C, n * 6 + 3, none⟩ = some (.int .i64 (b : Nat)) ∧ W.cell? ⟨g1, o1 + b, none⟩ = some (.slice (some ⟨g2, o2, none⟩) il ic) ∧ W.cell? ⟨C, n * 6 + 4, none⟩ = some (.int .i64 (j : Nat)) ∧ W.cell? ⟨g2, o2 + j * 9, none⟩ = some (.int .i64 i.op) ∧ W.cell? ⟨g2, o2 + j * 9 + 1, none⟩ = some (.int .i64 i.d) ∧ W.cell? ⟨g2, o2 + j * 9 + 2, none⟩ = some (.int .i64 i.a) ∧ W.cell? ⟨g2, o2 + j * 9 + 3, none⟩ = some (.int .i64 i.b) ∧ W.cell? ⟨g2, o2 + j * 9 + 4, none⟩ = some (.int .i64 i.n) ∧ W.cell? ⟨g2, o2 + j * 9 + 5, none⟩ = some (.string i.nm) ∧ W.cell? ⟨g2, o2 + j * 9 + 6, none⟩ = some (.slice i.ar i.gs.length i.ac) ∧ W.cell? ⟨g2, o2 + j * 9 + 7, none⟩ = some (.int .i64 i.to) ∧ W.cell? ⟨g2, o2 + j * 9 + 8, none⟩ = some (.int .i64 i.el)) := fun W hW => HKS.out W ((below_drewN (Below.refl _ _) nq).trans hW)
  have HV : Hid (Bk (w.drewN nq) C 109 cs ∧ Below w.heap.size w (w.drewN nq)) := ⟨H.out.bkc.drewN nq, below_drewN (Below.refl _ _) nq⟩
  have lCV : C < (w.drewN nq).heap.size := lC
  have lRV : R < (w.drewN nq).heap.size := lR
  have cjV : (w.drewN nq).cell? ⟨C, n * 6 + 4, none⟩ = some (.int .i64 (j : Nat)) := cj
  have cbV : (w.drewN nq).cell? ⟨C, n * 6 + 3, none⟩ = some (.int .i64 (b : Nat)) := H.out.bkc.cell (H.out.fc 3 _ rfl)
  have crV : (w.drewN nq).cell? ⟨C, n * 6 + 1, none⟩ = some (.slice (some ⟨q, 0, none⟩) rg.length rg.length) := H.out.bkc.cell (H.out.fc 1 _ rfl)
  have zcV : ∀ t, (w.drewN nq).frozen? ⟨C, t, none⟩ = false := zc
  clear r4 cj zc
  generalize hV : w.drewN nq = V at *
  clear hV
  go_region_held3 (fun W => W.cell? ⟨R, 0, none⟩ = some (.slice (some ⟨g, o, none⟩) pl pc) ∧ W.cell? ⟨C, n * 6, none⟩ = some (.int .i64 (k : Nat)) ∧ W.cell? ⟨g, o + k * 5 + 4, none⟩ = some (.slice (some ⟨g1, o1, none⟩) bl bc) ∧ W.cell? ⟨C, n * 6 + 3, none⟩ = some (.int .i64 (b : Nat)) ∧ W.cell? ⟨g1, o1 + b, none⟩ = some (.slice (some ⟨g2, o2, none⟩) il ic) ∧ W.cell? ⟨C, n * 6 + 4, none⟩ = some (.int .i64 (j : Nat)) ∧ W.cell? ⟨g2, o2 + j * 9, none⟩ = some (.int .i64 i.op) ∧ W.cell? ⟨g2, o2 + j * 9 + 1, none⟩ = some (.int .i64 i.d) ∧ W.cell? ⟨g2, o2 + j * 9 + 2, none⟩ = some (.int .i64 i.a) ∧ W.cell? ⟨g2, o2 + j * 9 + 3, none⟩ = some (.int .i64 i.b) ∧ W.cell? ⟨g2, o2 + j * 9 + 4, none⟩ = some (.int .i64 i.n) ∧ W.cell? ⟨g2, o2 + j * 9 + 5, none⟩ = some (.string i.nm) ∧ W.cell? ⟨g2, o2 + j * 9 + 6, none⟩ = some (.slice i.ar i.gs.length i.ac) ∧ W.cell? ⟨g2, o2 + j * 9 + 7, none⟩ = some (.int .i64 i.to) ∧ W.cell? ⟨g2, o2 + j * 9 + 8, none⟩ = some (.int .i64 i.el)) (first | exact HKV.out _ (Below.refl _ _).drew | exact HKV.out _ ((Below.refl V.heap.size V).alloc (Nat.le_refl _) _) | exact HKV.out _ ((Below.refl V.heap.size V).drew.alloc (Nat.le_refl _) _) | exact HKV.out _ ((Below.refl V.heap.size V).alloc (Nat.le_refl _) _).drew) (fail)
  go_wp2_with fail
  refine (HD.out _ (by (first | exact (SteQ.of HV.out.2 HV.out.1).then (((Below.refl _ _).alloc (Nat.le_refl _) _).drew) | exact (SteQ.of HV.out.2 HV.out.1).then ((Below.refl _ _).alloc (Nat.le_refl _) _)))).mono ?_
  rintro e w1 ⟨rfl, hq⟩
  go_wp2
  go_returns
  exact ⟨rfl, hq⟩
end
section
open Go.RowKit Go.Shelf
variable {p : List Fun} {pp : Option Addr} {pc : Nat} {L : List UInt8} {W0 : World} {R : Nat} {r : Rq} {C ca P pa : Nat} {go : List (Nat × Ob)} {W : World} {s1 : Rt} {tq : Nat} {lq : List (Nat × (Cal × Nat))} {i : Ins}
theorem copy_argsQ (W : World) (h g m al c : Nat) (vs : List Value) (hh : Bk W h 2 (List.replicate m (.int .i64 0))) (hg : ∀ (j : Nat) (v : Value), vs[j]? = some v → W.cell? ⟨g, j, none⟩ = some v) (hl : vs.length = al) (ham : al ≤ m) (h1 : ∀ v ∈ vs, v.oneCell' = true) : ∃ V, (Builtin.copy_ #[107, 107] 3 #[.slice (some ⟨h, 0, none⟩) m m, .slice (some ⟨g, 0, none⟩) al c]).run Tryz.prog W = .ok (.int .i64 al) V ∧ Onl (fun b => b = h) W V ∧ Bk V h 2 (vs ++ List.replicate (m - al) (.int .i64 0)) := by
  have hr := run_copy_row Tryz.prog W 107 107 3 2 h 0 m m ⟨g, 0, none⟩ al c (List.replicate m (Value.int .i64 0)).toArray 2 vs Tryz.underlying107 size2 hh (by rw [hl]; exact (Nat.min_eq_left ham).symm) (fun j v hj => by
    have := hg j v hj
    have e : (⟨g, 0, none⟩ : Addr).add j = ⟨g, j, none⟩ := by unfold Addr.add; split <;> simp_all
    rw [e]
    exact this) (by simp; omega) h1
  have e : (((List.replicate m (Value.int .i64 0)).toArray.toList.take 0 ++ vs ++ (List.replicate m (Value.int .i64 0)).toArray.toList.drop (0 + vs.length))) = vs ++ List.replicate (m - al) (.int .i64 0) := by
    simp [hl]
  rw [e, hl] at hr
  exact ⟨_, hr, (setRow_bk hh _).2, (setRow_bk hh _).1⟩
theorem ownMono {w : World} {gl : List (Nat × (Cal × Nat))} (hw : RelX p pp pc L W0 R r C ca P pa gl go w s1) : ∀ b, (b = R ∨ r.ob.ownBlock = some b ∨ r.cv.ownBlock = some b) → b < w.heap.size := fun b e => by
  rcases e with e | e | e
  · rw [e]; exact hw.rb.lt
  · rw [hw.pv] at e
    cases e
    obtain ⟨_, ds, hd, _⟩ := hw.bP
    exact hd.lt
  · rw [hw.cv] at e
    cases e
    obtain ⟨_, ds, hd, _⟩ := hw.bC
    exact hd.lt
theorem xcall_own {w : World} {vs : List Int} {st0 : Nat} (hw : RelX p pp pc L W0 R r C ca P pa ((tq, s1.top) :: lq) go w s1) (hI : FunA W0 pp pc p) (hpr : prB p = true) (hA : ArA w i.ar i.ac i.gs) (ha : ArgQ s1.top.1.rg i vs) (hvs : vs = i.gs.map (getR s1.top.1)) (hrt : rtA i.nm.data.toList = none) (hca : calB i.nm.data.toList i.gs.length (fdF p i.nm) = true) (hgo : go.length ≤ 1000000) (hnx : 0 ≤ s1.nx ∧ s1.nx ≤ 1099511627776) (hst : s1.st = st0 + 1) : Calls Tryz.prog 105 #[.pointer (some ⟨R, 0, none⟩), .pointer (some ⟨C, lq.length * 6, none⟩), inV i] w fun e w' => e = .returned (.tuple #[]) ∧ OutX p pp pc L (lq.length + 1) W0 R w' (calR p s1 i) := by
  unfold calB at hca
  rw [hrt] at hca
  unfold fdF at hca
  obtain ⟨f', hf'⟩ : ∃ f', fnOf p i.nm = some f' := by
    cases hf : fnOf p i.nm with
    | none => rw [hf] at hca; simp at hca
    | some f' => exact ⟨f', rfl⟩
  rw [hf'] at hca
  simp only [Option.map_some, decide_eq_true_eq] at hca
  obtain ⟨k, hk, hix, _⟩ := ixE_find i.nm f' p hf'
  have hixk : ixOf p i.nm = k := by unfold ixOf; rw [hix]; rfl
  have hfi : fiN p i.nm = (k : Int) := by unfold fiN; rw [hix]
  obtain ⟨hF, _⟩ := prog_fn hpr hk
  obtain ⟨hm, hfr, hpa⟩ := rg_le hk hF
  have hvl : vs.length = i.gs.length := ha.len
  have hvm : vs.length ≤ rgOf p k := by omega
  have nn' : ∀ l : List UInt8, rtA l ≠ none → ¬ i.nm.data.toList = l := fun l hl e => by rw [e] at hrt; exact hl hrt
  have hbl : blN i.nm.toList < 0 := by
    rw [ByteArray.toList_eq]
    unfold blN
    rw [hrt]
    exact (by decide : (-1 : Int) < 0)
  have hlen := hw.len
  simp only [List.length_cons] at hlen
  have hpg : w.cell? ⟨R, 0, none⟩ = some (.slice pp p.length pc) := hw.rb.cell (j := 0) (by rw [← hw.pg]; rfl)
  unfold calR
  dsimp only
  rw [if_neg (nn' _ (by decide)), if_neg (nn' _ (by decide)), if_neg (nn' _ (by decide)), if_neg (nn' _ (by decide)), hixk, ← hvs]
  refine rcalls_own R C _ tq s1.top.1.rg vs i w hw.regQ hA ha.le ha.len ha.at_ hbl pp p.length pc k hpg (fun W' hb => ?_) (fun av W' hg => ?_)
  · have := rfind27 p pp pc i.nm W' (hI.below (hw.below hb).bel)
    rw [hfi] at this
    exact this
  · have hx := hw.below hg.bel
    by_cases hd : 1000 ≤ s1.low.length + 1
    · rw [if_pos hd]
      refine (rcall_deep R k _ ca _ av i.d r W' hx.rb hx.cv (by simp only [List.length_cons]; omega)).mono ?_
      rintro e w' ⟨rfl, ho, hR⟩
      refine ⟨rfl, ho.mono (fun b e => by rw [e]; exact hw.rb.lt), hR.cell (j := 0) (by rw [← hw.pg]; rfl), ?_⟩
      have h' := hx.stop2 hst ho hR
      rw [show s1.st - 1 = st0 by omega]
      exact h'
    · rw [if_neg hd]
      obtain ⟨g, o, epp, f0, f1, f2, f3, f4, hbv⟩ := fn_cells (hI.below hx.bel) hk hF
      obtain ⟨W2, hW2⟩ : ∃ W2, W2 = ((W'.alloc (.cells (Array.replicate (rgOf p k) (.int .i64 0)) 2)).alloc (.cells #[.int .i64 k, .slice (some ⟨W'.heap.size, 0, none⟩) (rgOf p k) (rgOf p k), .int .i64 0, .int .i64 0, .int .i64 0, .int .i64 i.d] 109)) := ⟨_, rfl⟩
      have hbW : Below W'.heap.size W' W2 := by rw [hW2]; exact ((Below.refl _ _).alloc (Nat.le_refl _) _).alloc (by simp) _
      have hh : Bk W2 W'.heap.size 2 (List.replicate (rgOf p k) (.int .i64 0)) := by
        have t := (Bk.new W' (List.replicate (rgOf p k) (Value.int .i64 0)) 2).alloc (.cells #[.int .i64 k, .slice (some ⟨W'.heap.size, 0, none⟩) (rgOf p k) (rgOf p k), .int .i64 0, .int .i64 0, .int .i64 0, .int .i64 i.d] 109)
        rw [hW2]
        simpa using t
      obtain ⟨na, V, hcp, hV, hVq⟩ : ∃ na V, (Builtin.copy_ #[107, 107] 3 #[.slice (some ⟨W'.heap.size, 0, none⟩) (rgOf p k) (rgOf p k), av]).run Tryz.prog W2 = .ok (.int .i64 na) V ∧ Onl (fun b => b = W'.heap.size) W2 V ∧ Bk V W'.heap.size 2 ((vs ++ List.replicate (rgOf p k - vs.length) 0).map (Value.int .i64)) := by
        have hmap : (vs ++ List.replicate (rgOf p k - vs.length) (0 : Int)).map (Value.int .i64) = vs.map (Value.int .i64) ++ List.replicate (rgOf p k - vs.length) (.int .i64 0) := by simp
        rw [hmap]
        obtain ⟨_, ⟨hav, h0⟩ | ⟨ga, cap, cur, hav, _⟩⟩ := hg.own
        · have hv0 : vs = [] := List.length_eq_zero_iff.1 h0
          subst hv0
          rw [hav]
          refine ⟨0, W2, copy_none W2 _ _, Onl.of_below (Below.refl _ _), ?_⟩
          show Bk W2 _ 2 (List.replicate (rgOf p k) _)
          exact hh
        · have hcells : ∀ (j : Nat) (v : Value), (vs.map (Value.int .i64))[j]? = some v → W2.cell? ⟨ga, j, none⟩ = some v := fun j v hj => by
            have := own_cell hg.own hav hj
            exact (World.cell?_of_block (hbW.block ga (World.block_lt_of_cell? _ _ this))).trans this
          obtain ⟨V, h1, h2, h3⟩ := copy_argsQ W2 W'.heap.size ga (rgOf p k) vs.length cap (vs.map (Value.int .i64)) hh hcells (by simp) hvm (by intro v hv; obtain ⟨u, _, rfl⟩ := List.mem_map.1 hv; rfl)
          exact ⟨_, V, by rw [hav]; exact h1, h2, h3⟩
      rw [hW2] at hcp hV
      refine (rcall31 R W0.heap.size k _ go.length g o p.length pc (rgOf p k) (frOf p k) i.d na av r _ _ _ W' V hx.rb (by rw [← epp]; exact hx.pg) (List.getElem?_eq_some_iff.1 hk).1 f2 f3 hx.co hx.po hx.bel.size hm hfr (by simp only [List.length_cons]; omega) hgo (by rw [hx.nx]; exact hnx.1) (by rw [hx.nx]; exact hnx.2) hcp hV hVq).mono ?_
      rintro e w' ⟨rfl, hE⟩
      obtain ⟨r', C', ca', P', pa', gl', go', h', hpg'⟩ := hx.enter rfl rfl hvm hE
      obtain ⟨cv, ob, gw, ho, hR, _⟩ := hE.out
      refine ⟨rfl, ho.mono (ownMono hw), ?_, r', C', ca', P', pa', gl', go', h'⟩
      exact h'.rb.cell (j := 0) (by rw [← hw.pg, ← hpg']; rfl)
/-- A return. -/
theorem xback {w : World} (v : Int) (n : Nat) (hw : RelX p pp pc L W0 R r C ca P pa ((tq, s1.top) :: lq) go w s1) (hO : ObF p s1.os s1.top) (hn : lq.length ≤ 1000000) (hgo : go.length ≤ 1000000) (hA : ∀ x2 l, s1.low = x2 :: l → s1.top.1.an = -1 ∨ (0 ≤ s1.top.1.an ∧ s1.top.1.an < x2.1.rg.length)) : Calls Tryz.prog 74 #[.pointer (some ⟨R, 0, none⟩), .int .i64 v] w fun e w' => e = .returned (.tuple #[]) ∧ OutX p pp pc L n W0 R w' (bakR s1 v) := by
  obtain ⟨c0, cs, hC, t1, t2, t3, t4⟩ := hw.bC
  obtain ⟨p0, os, hP, u1, u2, u3, u4⟩ := hw.bP
  obtain ⟨o, ho, _⟩ := hO
  obtain ⟨x, hx, hxo⟩ := RelX.atO hw ho
  have hxl := (List.getElem?_eq_some_iff.1 hx).1
  have hed : ∃ u, os[s1.top.2 * 4 + 3]? = some u := by
    have := flO_at go s1.top.2 x hx 3 _ rfl
    rw [← u1, List.getElem?_take] at this
    split at this
    · exact ⟨_, this⟩
    · cases this
  have hfc : ∀ t v, (fmC s1.top.1.k tq s1.top.1.rg.length s1.top.2 s1.top.1.b s1.top.1.j s1.top.1.an)[t]? = some v → cs[lq.length * 6 + t]? = some v := fun t v ht => by
    have := rowX_at (tq, s1.top) lq t v ht
    rw [← t1, List.getElem?_take] at this
    split at this
    · exact this
    · cases this
  have hF : BakF R C ca P go.length pa lq.length tq s1.top.1.rg.length s1.top.2 s1.top.1.k s1.top.1.b s1.top.1.j s1.top.1.an r cs os w := ⟨hw.rb, hw.cv, hw.pv, hC, hP, hfc, hed, hxl, hn, by omega, t2⟩
  unfold bakR
  have hls := hw.ls
  simp only [List.map_cons, List.cons.injEq] at hls
  cases lq with
  | nil =>
    have hlow : s1.low = [] := by rw [← hls.2]; rfl
    rw [hlow]
    refine (rback_last R C ca P go.length pa tq _ _ _ _ _ _ v r cs os w hF).mono ?_
    rintro e w' ⟨rfl, hon, cv, hR⟩
    refine ⟨rfl, _, none, 0, Onl.below (Nat.le_refl _) hw.bel hon (fun b e => by rcases e with e | e; rw [e]; exact hw.rB; rw [e]; exact p0), hw.rB, hR, rfl, rfl, rfl, ?_, fun e => absurd e (by show ¬ (1 : Int) = 2; decide), hw.ovk hon (fun b e => e.imp id fun e => ⟨146, os, by rw [e]; exact hP, by decide⟩)⟩
    show r.st = (s1.st : Int) + _
    rw [hw.st, if_neg (by show ¬ (1 : Int) = 2; decide), Int.add_zero]
  | cons y lq =>
    obtain ⟨tq2, x2⟩ := y
    have hlow : s1.low = x2 :: lq.map (·.2) := by rw [← hls.2]; rfl
    rw [hlow]
    dsimp only
    have hq2 := (hw.rg (tq2, x2) (by simp)).2
    have hfc2 : ∀ t v, (fmC ((x2.1.k : Nat) : Int) tq2 x2.1.rg.length ((x2.2 : Nat) : Int) ((x2.1.b : Nat) : Int) ((x2.1.j : Nat) : Int) x2.1.an)[t]? = some v → cs[lq.length * 6 + t]? = some v := fun t v ht => by
      have := rowX_low (tq, s1.top) ((tq2, x2) :: lq) _ _ (rowX_at (tq2, x2) lq t v ht)
      rw [← t1, List.getElem?_take] at this
      split at this
      · exact this
      · cases this
    rcases hA x2 _ hlow with han | ⟨a0, a1⟩
    · refine (rback_none R C ca P go.length pa lq.length tq _ _ _ _ _ v _ (by rw [han]; decide) tq2 _ _ _ _ _ x2.1.rg r cs os w hF hfc2 hq2).mono ?_
      rintro e w' ⟨rfl, hG⟩
      have h' := hw.back rfl hx hC hP rfl hG _ hlow
      refine ⟨rfl, ?_⟩
      rw [han]
      unfold setR
      rw [if_pos rfl]
      exact ⟨_, _, _, _, _, _, _, h'⟩
    · obtain ⟨d, hd⟩ : ∃ d : Nat, s1.top.1.an = (d : Int) := ⟨s1.top.1.an.toNat, by omega⟩
      obtain ⟨u, hu⟩ : ∃ u, x2.1.rg[d]? = some u := ⟨_, List.getElem?_eq_getElem (by omega)⟩
      rw [hd] at hF
      refine (rback_more R C ca P go.length pa lq.length tq _ _ _ _ _ v d tq2 _ _ _ _ _ x2.1.rg u r cs os w hF hfc2 hq2 hu).mono ?_
      rintro e w' ⟨rfl, hG⟩
      have h' := hw.back rfl hx hC hP (by simp) hG _ hlow
      refine ⟨rfl, ?_⟩
      rw [hd, setR_nat]
      exact ⟨_, _, _, _, _, _, _, h'⟩
end
end Go.Proofs.YtdppoblbenbafaaGreatDoor
