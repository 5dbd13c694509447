/- What the little program does. -/
import Derived.Test.YtdppoblbenbafaaDoorXAS
import Derived.Test.YtdppoblbenbafaaDoorXAZ
namespace Go.Proofs.YtdppoblbenbafaaDoor
open Go.RowKit Go.Shelf
/-- The cells of a run. -/
def rl (p m1 m2 : Nat) (cv pv : Value) (nx : Int) (en cd : Int) (ov : Value) (st : Int) : List Value := [.slice (some ⟨p, 0, none⟩) 1 1, .map (some m1), .map (some m2), cv, pv, .int .i64 0, .int .i64 nx, .int .i64 0, .slice none 0 0, .int .i64 en, .int .i64 cd, ov, .int .i64 st]
set_option maxRecDepth 20000 in
set_option maxHeartbeats 8000000 in
theorem outcome_9 (p y x z : Nat) (w : World) (hP : Pr w p y x z) : Calls Tryd.prog 13 #[.slice (some ⟨p, 0, none⟩) 1 1, .slice none 0 0, .int .i64 9] w fun e w' => ∃ g cap, e = .returned (.agg #[.int .i64 1, .int .i64 0, .slice (some ⟨g, 0, none⟩) 2 cap, .int .i64 3]) ∧ Cl w' g [.int .u8 55, .int .u8 10] ∧ Below w.heap.size w w' ∧ w.heap.size ≤ g := by
  have HPr : Hid (Pr w p y x z) := hP
  have hmm := @run_makeMap Tryd.prog
  obtain ⟨p0, p1, p2, p3, p4, _, _, lp, _⟩ := hP
  have g0 : ∀ j v, w.cell? ⟨p, j, none⟩ = some v → ∀ o1 o2 o3 o4, ((((w.alloc o1).alloc o2).alloc o3).alloc o4).cell? ⟨p, j, none⟩ = some v := fun j v hv o1 o2 o3 o4 => acell (by simp; omega) (acell (by simp; omega) (acell (by simp; omega) (acell lp hv _) _) _) _
  have p0' := g0 _ _ p0
  have p1' := g0 _ _ p1
  have p2' := g0 _ _ p2
  have p3' := g0 _ _ p3
  have p4' := g0 _ _ p4
  have HW : Hid (∃ W, W = ((((w.alloc (.cells #[.int .i64 0, .int .i64 0, .slice none 0 0, .int .i64 0] 30)).alloc (.map #[] 0)).alloc (.map oes 14)).alloc (.cells #[.slice (some ⟨p, 0, none⟩) 1 1, .map (some (w.heap.size + 1)), .map (some (w.heap.size + 1 + 1)), .slice none 0 0, .slice none 0 0, .int .i64 0, .int .i64 65536, .int .i64 0, .slice none 0 0, .int .i64 0, .int .i64 0, .slice none 0 0, .int .i64 0] 60)).alloc (.cells #[.string ⟨#[109, 97, 105, 110]⟩, .int .i64 0, .int .i64 1, .int .i64 0, .slice (some ⟨y, 0, none⟩) 1 1] 43) ∧ Below w.heap.size w W ∧ W.heap.size = w.heap.size + 5 ∧ W.heap[w.heap.size + 1]? = some (.map #[] 0) ∧ Cl W (w.heap.size + 1 + 1 + 1) #[.slice (some ⟨p, 0, none⟩) 1 1, .map (some (w.heap.size + 1)), .map (some (w.heap.size + 1 + 1)), .slice none 0 0, .slice none 0 0, .int .i64 0, .int .i64 65536, .int .i64 0, .slice none 0 0, .int .i64 0, .int .i64 0, .slice none 0 0, .int .i64 0].toList ∧ Cl W w.heap.size [.int .i64 0, .int .i64 0, .slice none 0 0, .int .i64 0] ∧ Cl W (w.heap.size + 1 + 1 + 1 + 1) [.string ⟨#[109, 97, 105, 110]⟩, .int .i64 0, .int .i64 1, .int .i64 0, .slice (some ⟨y, 0, none⟩) 1 1]) := by
    refine ⟨_, rfl, (((((G.refl w).alloc _).alloc _).alloc _).alloc _ |>.alloc _).below, by simp, ?_, ?_, ?_, ?_⟩
    · rw [(Go.MapKept.heap_alloc _ _).2 _ (by simp), (Go.MapKept.heap_alloc _ _).2 _ (by simp), (Go.MapKept.heap_alloc _ _).2 _ (by simp), (show w.heap.size + 1 = (w.alloc (.cells #[.int .i64 0, .int .i64 0, .slice none 0 0, .int .i64 0] 30)).heap.size by simp), (Go.MapKept.heap_alloc _ _).1]
    · refine Cl.alloc ?_ _
      have t := Cl.new (((w.alloc (.cells #[.int .i64 0, .int .i64 0, .slice none 0 0, .int .i64 0] 30)).alloc (.map #[] 0)).alloc (.map oes 14)) (#[.slice (some ⟨p, 0, none⟩) 1 1, .map (some (w.heap.size + 1)), .map (some (w.heap.size + 1 + 1)), .slice none 0 0, .slice none 0 0, .int .i64 0, .int .i64 65536, .int .i64 0, .slice none 0 0, .int .i64 0, .int .i64 0, .slice none 0 0, .int .i64 0].toList) 60
      rw [show (((w.alloc (.cells #[.int .i64 0, .int .i64 0, .slice none 0 0, .int .i64 0] 30)).alloc (.map #[] 0)).alloc (.map oes 14)).heap.size = w.heap.size + 1 + 1 + 1 by simp] at t
      exact t
    · exact ((((Cl.new w [.int .i64 0, .int .i64 0, .slice none 0 0, .int .i64 0] 30).alloc _).alloc _).alloc _).alloc _
    · have t := Cl.new ((((w.alloc (.cells #[.int .i64 0, .int .i64 0, .slice none 0 0, .int .i64 0] 30)).alloc (.map #[] 0)).alloc (.map oes 14)).alloc (.cells #[.slice (some ⟨p, 0, none⟩) 1 1, .map (some (w.heap.size + 1)), .map (some (w.heap.size + 1 + 1)), .slice none 0 0, .slice none 0 0, .int .i64 0, .int .i64 65536, .int .i64 0, .slice none 0 0, .int .i64 0, .int .i64 0, .slice none 0 0, .int .i64 0] 60)) [.string ⟨#[109, 97, 105, 110]⟩, .int .i64 0, .int .i64 1, .int .i64 0, .slice (some ⟨y, 0, none⟩) 1 1] 43
      rw [show ((((w.alloc (.cells #[.int .i64 0, .int .i64 0, .slice none 0 0, .int .i64 0] 30)).alloc (.map #[] 0)).alloc (.map oes 14)).alloc (.cells #[.slice (some ⟨p, 0, none⟩) 1 1, .map (some (w.heap.size + 1)), .map (some (w.heap.size + 1 + 1)), .slice none 0 0, .slice none 0 0, .int .i64 0, .int .i64 65536, .int .i64 0, .slice none 0 0, .int .i64 0, .int .i64 0, .slice none 0 0, .int .i64 0] 60)).heap.size = w.heap.size + 1 + 1 + 1 + 1 by simp] at t
      exact t
  clear g0 p0 p1 p2 p3 p4
  go_enter Tryd.func13, Tryd.ntmps13
  go_wp2_with (first | (go_at_call 17; refine (operations7 _).mono ?_; rintro e w' ⟨rfl, rfl⟩))
  refine wp_loop_rounds 2 ?_
  rw [rounds_succ]
  go_wp2
  obtain ⟨W, hW, hB, hsz, hm, hr, hx, hb⟩ := HW.out
  rw [← hW]
  have HB : Hid (Below w.heap.size w W) := hB
  have HR : Hid (Cl W (w.heap.size + 1 + 1 + 1) #[.slice (some ⟨p, 0, none⟩) 1 1, .map (some (w.heap.size + 1)), .map (some (w.heap.size + 1 + 1)), .slice none 0 0, .slice none 0 0, .int .i64 0, .int .i64 65536, .int .i64 0, .slice none 0 0, .int .i64 0, .int .i64 0, .slice none 0 0, .int .i64 0].toList) := hr
  have HX : Hid (Cl W w.heap.size [.int .i64 0, .int .i64 0, .slice none 0 0, .int .i64 0]) := hx
  have HS : Hid (W.heap.size = w.heap.size + 5) := hsz
  have r1 := hr.cell (j := 1) rfl
  have b0 := hb.cell (j := 0) rfl
  have hu := upd59 (w.heap.size + 1) ⟨#[109, 97, 105, 110]⟩ (.int .i64 0) #[] 0 W.drew hm (by rfl)
  clear HW hW hB hr hx hb hsz hm p0' p1' p2' p3' p4'
  go_region
  have HBV : Hid (Below w.heap.size w (swp W.drew (w.heap.size + 1) (.map #[{ key := .string ⟨#[109, 97, 105, 110]⟩, val := .int .i64 0, born := 0 }] 1))) := swp_below HB.out.drew _ _ (by omega)
  have HRV : Hid (Cl (swp W.drew (w.heap.size + 1) (.map #[{ key := .string ⟨#[109, 97, 105, 110]⟩, val := .int .i64 0, born := 0 }] 1)) (w.heap.size + 1 + 1 + 1) (rl p (w.heap.size + 1) (w.heap.size + 1 + 1) (.slice none 0 0) (.slice none 0 0) 65536 0 0 (.slice none 0 0) 0)) := HR.out.drew.keep (swp_heap _ _ _ _ (by omega))
  have HXV : Hid (Cl (swp W.drew (w.heap.size + 1) (.map #[{ key := .string ⟨#[109, 97, 105, 110]⟩, val := .int .i64 0, born := 0 }] 1)) w.heap.size [.int .i64 0, .int .i64 0, .slice none 0 0, .int .i64 0]) := HX.out.drew.keep (swp_heap _ _ _ _ (by omega))
  have HSV : Hid ((swp W.drew (w.heap.size + 1) (.map #[{ key := .string ⟨#[109, 97, 105, 110]⟩, val := .int .i64 0, born := 0 }] 1)).heap.size = w.heap.size + 5) := by show _ = _; rw [swp_size]; exact HS.out
  clear HB HR HX HS r1 b0 hu
  generalize swp W.drew (w.heap.size + 1) (.map #[{ key := .string ⟨#[109, 97, 105, 110]⟩, val := .int .i64 0, born := 0 }] 1) = V at *
  go_wp2
  rw [rounds_succ]
  go_wp2_with fail
  refine (enter33 (w.heap.size + 1 + 1 + 1) p y x z _ V HRV.out rfl rfl rfl rfl rfl (HPr.out.below HBV.out)).mono ?_
  rintro e w1 ⟨rfl, C, ca, Q, P, pa, wa, wc, ho, hr, hc, hq, hp, l1, l2, l3⟩
  have HN : Hid (w.heap.size + 5 ≤ Q ∧ Q < P ∧ P < C) := ⟨by have := HSV.out; omega, l2, l3⟩
  have HB0 : Hid (Below w.heap.size w w1) := Onl.below (Nat.le_refl _) HBV.out ho (fun b e => by omega)
  have HR0 : Hid (Cl w1 (w.heap.size + 1 + 1 + 1) (rl p (w.heap.size + 1) (w.heap.size + 1 + 1) (.slice (some ⟨C, 0, none⟩) 1 ca) (.slice (some ⟨P, 0, none⟩) 1 pa) 65544 0 0 (.slice none 0 0) 0)) := hr
  have HC0 : Hid (Cl w1 C [.slice (some ⟨y, 0, none⟩) 1 1, .slice (some ⟨Q, 0, none⟩) 1 1, .int .i64 65536, .int .i64 0, .int .i64 0, .int .i64 0, .int .i64 (-1)]) := hc
  have HQ0 : Hid (Cl w1 Q [.int .i64 0]) := hq
  have HP0 : Hid (Cl w1 P [.int .i64 1, .int .i64 65536, .slice wa 0 wc]) := hp
  have HX0 : Hid (Cl w1 w.heap.size [.int .i64 0, .int .i64 0, .slice none 0 0, .int .i64 0]) := HXV.out.onl ho (fun e => by omega)
  have HL : Hid (p < w.heap.size ∧ y < w.heap.size ∧ x < w.heap.size ∧ z < w.heap.size) := ⟨HPr.out.lp, HPr.out.ly, HPr.out.ib.lx, HPr.out.ib.lz⟩
  clear ho hr hc hq hp l1 l2 l3 HBV HRV HXV HSV
  go_wp2_with fail
  refine wp_loop_rounds 4 ?_
  have r9 := HR0.out.cell (j := 9) rfl
  have hIn : Hid (Calls Tryd.prog 19 #[.pointer (some ⟨w.heap.size + 1 + 1 + 1, 0, none⟩)] w1 fun e w' => e = .returned (.pointer (some ⟨x, 0, none⟩)) ∧ ∃ n, w' = World.drewN w1 n) := instruction34 (w.heap.size + 1 + 1 + 1) C ca y x 0 w1 (by omega) (HR0.out.cell (j := 3) rfl) (HC0.out.cell (j := 0) rfl) (HC0.out.cell (j := 4) rfl) (HC0.out.cell (j := 5) rfl) (HPr.out.below HB0.out).by_
  rw [rounds_succ]
  go_wp2_with fail
  refine hIn.out.mono ?_
  rintro e wb0 ⟨rfl, n0, hw0⟩
  have hb : Below (w1).heap.size w1 wb0 := by rw [hw0]; exact below_drewN (Below.refl _ _) n0
  have HBb : Hid (Below w.heap.size w wb0) := HB0.out.trans (hb.mono HB0.out.size)
  have HRb : Hid (Cl wb0 (w.heap.size + 1 + 1 + 1) (rl p (w.heap.size + 1) (w.heap.size + 1 + 1) (.slice (some ⟨C, 0, none⟩) 1 ca) (.slice (some ⟨P, 0, none⟩) 1 pa) 65544 0 0 (.slice none 0 0) 0)) := HR0.out.below hb
  have HCb : Hid (Cl wb0 C [.slice (some ⟨y, 0, none⟩) 1 1, .slice (some ⟨Q, 0, none⟩) 1 1, .int .i64 65536, .int .i64 0, .int .i64 0, .int .i64 0, .int .i64 (-1)]) := HC0.out.below hb
  have HQb : Hid (Cl wb0 Q [.int .i64 0]) := HQ0.out.below hb
  have HPb : Hid (Cl wb0 P [.int .i64 1, .int .i64 65536, .slice wa 0 wc]) := HP0.out.below hb
  have HXb : Hid (Cl wb0 w.heap.size [.int .i64 0, .int .i64 0, .slice none 0 0, .int .i64 0]) := HX0.out.below hb
  have r12 := HRb.out.cell (j := 12) rfl
  have z12 := HRb.out.fz 12
  clear hb hw0 r9 HR0 HC0 HQ0 HP0 HX0 HB0 hIn
  go_wp2_with fail
  refine (deep_1 (w.heap.size + 1 + 1 + 1) x 0 wb0 ((HPr.out.below HBb.out).ib.at_ 0 _ rfl)).mono ?_
  rintro e w' ⟨rfl, hw'⟩
  subst hw'
  have n1 := HN.out
  have HRc : Hid (Cl (World.setCell w' ⟨w.heap.size + 1 + 1 + 1, 12, none⟩ (.int .i64 1)) (w.heap.size + 1 + 1 + 1) (rl p (w.heap.size + 1) (w.heap.size + 1 + 1) (.slice (some ⟨C, 0, none⟩) 1 ca) (.slice (some ⟨P, 0, none⟩) 1 pa) 65544 0 0 (.slice none 0 0) 1)) := HRb.out.set (by simp [rl]) _
  have HCc : Hid (Cl (World.setCell w' ⟨w.heap.size + 1 + 1 + 1, 12, none⟩ (.int .i64 1)) C [.slice (some ⟨y, 0, none⟩) 1 1, .slice (some ⟨Q, 0, none⟩) 1 1, .int .i64 65536, .int .i64 0, .int .i64 0, .int .i64 0, .int .i64 (-1)]) := HCb.out.other (by omega)
  have HQc : Hid (Cl (World.setCell w' ⟨w.heap.size + 1 + 1 + 1, 12, none⟩ (.int .i64 1)) Q [.int .i64 0]) := HQb.out.other (by omega)
  have HPc : Hid (Cl (World.setCell w' ⟨w.heap.size + 1 + 1 + 1, 12, none⟩ (.int .i64 1)) P [.int .i64 1, .int .i64 65536, .slice wa 0 wc]) := HPb.out.other (by omega)
  have HXc : Hid (Cl (World.setCell w' ⟨w.heap.size + 1 + 1 + 1, 12, none⟩ (.int .i64 1)) w.heap.size [.int .i64 0, .int .i64 0, .slice none 0 0, .int .i64 0]) := HXb.out.other (by omega)
  have HBc : Hid (Below w.heap.size w (World.setCell w' ⟨w.heap.size + 1 + 1 + 1, 12, none⟩ (.int .i64 1))) := HBb.out.setCell (p := ⟨w.heap.size + 1 + 1 + 1, 12, none⟩) (by show w.heap.size ≤ w.heap.size + 1 + 1 + 1; omega) _
  clear n1
  go_wp2_with fail
  have n1 := HN.out
  have n2 := HL.out
  refine (do_const (w.heap.size + 1 + 1 + 1) C Q ca x z y _ _ HCc.out HQc.out HRc.out rfl rfl (HPr.out.below HBc.out).ib (by omega) (by omega)).mono ?_
  rintro e wc0 ⟨rfl, ho, hc, hq⟩
  have HR1 : Hid (Cl wc0 (w.heap.size + 1 + 1 + 1) (rl p (w.heap.size + 1) (w.heap.size + 1 + 1) (.slice (some ⟨C, 0, none⟩) 1 ca) (.slice (some ⟨P, 0, none⟩) 1 pa) 65544 0 0 (.slice none 0 0) 1)) := HRc.out.onl ho (fun e => by omega)
  have HC1 : Hid (Cl wc0 C [.slice (some ⟨y, 0, none⟩) 1 1, .slice (some ⟨Q, 0, none⟩) 1 1, .int .i64 65536, .int .i64 0, .int .i64 0, .int .i64 1, .int .i64 (-1)]) := hc
  have HQ1 : Hid (Cl wc0 Q [.int .i64 7]) := hq
  have HP1 : Hid (Cl wc0 P [.int .i64 1, .int .i64 65536, .slice wa 0 wc]) := HPc.out.onl ho (fun e => by omega)
  have HX1 : Hid (Cl wc0 w.heap.size [.int .i64 0, .int .i64 0, .slice none 0 0, .int .i64 0]) := HXc.out.onl ho (fun e => by omega)
  have HB1 : Hid (Below w.heap.size w wc0) := Onl.below (Nat.le_refl _) HBc.out ho (fun b e => by omega)
  clear ho hc hq
  clear n1 n2 HRb HCb HQb HPb HXb HBb HRc HCc HQc HPc HXc HBc r12 z12
  go_wp2_with fail
  have r9 := HR1.out.cell (j := 9) rfl
  have hIn : Hid (Calls Tryd.prog 19 #[.pointer (some ⟨w.heap.size + 1 + 1 + 1, 0, none⟩)] wc0 fun e w' => e = .returned (.pointer (some ⟨x, 9, none⟩)) ∧ ∃ n, w' = World.drewN wc0 n) := instruction34 (w.heap.size + 1 + 1 + 1) C ca y x 1 wc0 (by omega) (HR1.out.cell (j := 3) rfl) (HC1.out.cell (j := 0) rfl) (HC1.out.cell (j := 4) rfl) (HC1.out.cell (j := 5) rfl) (HPr.out.below HB1.out).by_
  rw [rounds_succ]
  go_wp2_with fail
  refine hIn.out.mono ?_
  rintro e wb1 ⟨rfl, n1, hw1⟩
  have hb : Below (wc0).heap.size wc0 wb1 := by rw [hw1]; exact below_drewN (Below.refl _ _) n1
  have HBb : Hid (Below w.heap.size w wb1) := HB1.out.trans (hb.mono HB1.out.size)
  have HRb : Hid (Cl wb1 (w.heap.size + 1 + 1 + 1) (rl p (w.heap.size + 1) (w.heap.size + 1 + 1) (.slice (some ⟨C, 0, none⟩) 1 ca) (.slice (some ⟨P, 0, none⟩) 1 pa) 65544 0 0 (.slice none 0 0) 1)) := HR1.out.below hb
  have HCb : Hid (Cl wb1 C [.slice (some ⟨y, 0, none⟩) 1 1, .slice (some ⟨Q, 0, none⟩) 1 1, .int .i64 65536, .int .i64 0, .int .i64 0, .int .i64 1, .int .i64 (-1)]) := HC1.out.below hb
  have HQb : Hid (Cl wb1 Q [.int .i64 7]) := HQ1.out.below hb
  have HPb : Hid (Cl wb1 P [.int .i64 1, .int .i64 65536, .slice wa 0 wc]) := HP1.out.below hb
  have HXb : Hid (Cl wb1 w.heap.size [.int .i64 0, .int .i64 0, .slice none 0 0, .int .i64 0]) := HX1.out.below hb
  have r12 := HRb.out.cell (j := 12) rfl
  have z12 := HRb.out.fz 12
  clear hb hw1 r9 HR1 HC1 HQ1 HP1 HX1 HB1 hIn
  go_wp2_with fail
  refine (deep_call (w.heap.size + 1 + 1 + 1) C ca x 9 wb1 (HRb.out.cell (j := 3) rfl) ((HPr.out.below HBb.out).ib.at_ 9 _ rfl)).mono ?_
  rintro e w' ⟨rfl, hw'⟩
  subst hw'
  have n1 := HN.out
  have HRc : Hid (Cl (World.setCell w' ⟨w.heap.size + 1 + 1 + 1, 12, none⟩ (.int .i64 2)) (w.heap.size + 1 + 1 + 1) (rl p (w.heap.size + 1) (w.heap.size + 1 + 1) (.slice (some ⟨C, 0, none⟩) 1 ca) (.slice (some ⟨P, 0, none⟩) 1 pa) 65544 0 0 (.slice none 0 0) 2)) := HRb.out.set (by simp [rl]) _
  have HCc : Hid (Cl (World.setCell w' ⟨w.heap.size + 1 + 1 + 1, 12, none⟩ (.int .i64 2)) C [.slice (some ⟨y, 0, none⟩) 1 1, .slice (some ⟨Q, 0, none⟩) 1 1, .int .i64 65536, .int .i64 0, .int .i64 0, .int .i64 1, .int .i64 (-1)]) := HCb.out.other (by omega)
  have HQc : Hid (Cl (World.setCell w' ⟨w.heap.size + 1 + 1 + 1, 12, none⟩ (.int .i64 2)) Q [.int .i64 7]) := HQb.out.other (by omega)
  have HPc : Hid (Cl (World.setCell w' ⟨w.heap.size + 1 + 1 + 1, 12, none⟩ (.int .i64 2)) P [.int .i64 1, .int .i64 65536, .slice wa 0 wc]) := HPb.out.other (by omega)
  have HXc : Hid (Cl (World.setCell w' ⟨w.heap.size + 1 + 1 + 1, 12, none⟩ (.int .i64 2)) w.heap.size [.int .i64 0, .int .i64 0, .slice none 0 0, .int .i64 0]) := HXb.out.other (by omega)
  have HBc : Hid (Below w.heap.size w (World.setCell w' ⟨w.heap.size + 1 + 1 + 1, 12, none⟩ (.int .i64 2))) := HBb.out.setCell (p := ⟨w.heap.size + 1 + 1 + 1, 12, none⟩) (by show w.heap.size ≤ w.heap.size + 1 + 1 + 1; omega) _
  clear n1
  go_wp2_with fail
  have n1 := HN.out
  have n2 := HL.out
  refine (do_call7 (w.heap.size + 1 + 1 + 1) C Q ca x z y _ _ HCc.out HQc.out HRc.out rfl rfl rfl (HPr.out.below HBc.out).ib (by omega) (by omega) (by omega) (by omega) (by omega)).mono ?_
  rintro e wc1 ⟨rfl, g, cap, ho, hc, hr, hg, hge⟩
  have HR2 : Hid (Cl wc1 (w.heap.size + 1 + 1 + 1) (rl p (w.heap.size + 1) (w.heap.size + 1 + 1) (.slice (some ⟨C, 0, none⟩) 1 ca) (.slice (some ⟨P, 0, none⟩) 1 pa) 65544 0 0 (.slice (some ⟨g, 0, none⟩) 2 cap) 2)) := hr
  have HC2 : Hid (Cl wc1 C [.slice (some ⟨y, 0, none⟩) 1 1, .slice (some ⟨Q, 0, none⟩) 1 1, .int .i64 65536, .int .i64 0, .int .i64 0, .int .i64 2, .int .i64 (-1)]) := hc
  have HQ2 : Hid (Cl wc1 Q [.int .i64 7]) := HQc.out.onl ho (fun e => by omega)
  have HP2 : Hid (Cl wc1 P [.int .i64 1, .int .i64 65536, .slice wa 0 wc]) := HPc.out.onl ho (fun e => by omega)
  have HX2 : Hid (Cl wc1 w.heap.size [.int .i64 0, .int .i64 0, .slice none 0 0, .int .i64 0]) := HXc.out.onl ho (fun e => by omega)
  have HB2 : Hid (Below w.heap.size w wc1) := Onl.below (Nat.le_refl _) HBc.out ho (fun b e => by omega)
  have HO2 : Hid (Cl wc1 g [.int .u8 55, .int .u8 10]) := hg
  have HOg : Hid (C < g) := by have := HCc.out.lt; show C < g; omega
  clear ho hc hr hg hge
  clear n1 n2 HRb HCb HQb HPb HXb HBb HRc HCc HQc HPc HXc HBc r12 z12
  go_wp2_with fail
  have r9 := HR2.out.cell (j := 9) rfl
  have hIn : Hid (Calls Tryd.prog 19 #[.pointer (some ⟨w.heap.size + 1 + 1 + 1, 0, none⟩)] wc1 fun e w' => e = .returned (.pointer (some ⟨x, 18, none⟩)) ∧ ∃ n, w' = World.drewN wc1 n) := instruction34 (w.heap.size + 1 + 1 + 1) C ca y x 2 wc1 (by omega) (HR2.out.cell (j := 3) rfl) (HC2.out.cell (j := 0) rfl) (HC2.out.cell (j := 4) rfl) (HC2.out.cell (j := 5) rfl) (HPr.out.below HB2.out).by_
  rw [rounds_succ]
  go_wp2_with fail
  refine hIn.out.mono ?_
  rintro e wb2 ⟨rfl, n2, hw2⟩
  have hb : Below (wc1).heap.size wc1 wb2 := by rw [hw2]; exact below_drewN (Below.refl _ _) n2
  have HBb : Hid (Below w.heap.size w wb2) := HB2.out.trans (hb.mono HB2.out.size)
  have HRb : Hid (Cl wb2 (w.heap.size + 1 + 1 + 1) (rl p (w.heap.size + 1) (w.heap.size + 1 + 1) (.slice (some ⟨C, 0, none⟩) 1 ca) (.slice (some ⟨P, 0, none⟩) 1 pa) 65544 0 0 (.slice (some ⟨g, 0, none⟩) 2 cap) 2)) := HR2.out.below hb
  have HCb : Hid (Cl wb2 C [.slice (some ⟨y, 0, none⟩) 1 1, .slice (some ⟨Q, 0, none⟩) 1 1, .int .i64 65536, .int .i64 0, .int .i64 0, .int .i64 2, .int .i64 (-1)]) := HC2.out.below hb
  have HQb : Hid (Cl wb2 Q [.int .i64 7]) := HQ2.out.below hb
  have HPb : Hid (Cl wb2 P [.int .i64 1, .int .i64 65536, .slice wa 0 wc]) := HP2.out.below hb
  have HXb : Hid (Cl wb2 w.heap.size [.int .i64 0, .int .i64 0, .slice none 0 0, .int .i64 0]) := HX2.out.below hb
  have HOb : Hid (Cl wb2 g [.int .u8 55, .int .u8 10]) := HO2.out.below hb
  have r12 := HRb.out.cell (j := 12) rfl
  have z12 := HRb.out.fz 12
  clear hb hw2 r9 HR2 HC2 HQ2 HP2 HX2 HB2 hIn
  go_wp2_with fail
  refine (deep_10 (w.heap.size + 1 + 1 + 1) x 18 wb2 ((HPr.out.below HBb.out).ib.at_ 18 _ rfl)).mono ?_
  rintro e w' ⟨rfl, hw'⟩
  subst hw'
  have n1 := HN.out
  have HRc : Hid (Cl (World.setCell w' ⟨w.heap.size + 1 + 1 + 1, 12, none⟩ (.int .i64 3)) (w.heap.size + 1 + 1 + 1) (rl p (w.heap.size + 1) (w.heap.size + 1 + 1) (.slice (some ⟨C, 0, none⟩) 1 ca) (.slice (some ⟨P, 0, none⟩) 1 pa) 65544 0 0 (.slice (some ⟨g, 0, none⟩) 2 cap) 3)) := HRb.out.set (by simp [rl]) _
  have HCc : Hid (Cl (World.setCell w' ⟨w.heap.size + 1 + 1 + 1, 12, none⟩ (.int .i64 3)) C [.slice (some ⟨y, 0, none⟩) 1 1, .slice (some ⟨Q, 0, none⟩) 1 1, .int .i64 65536, .int .i64 0, .int .i64 0, .int .i64 2, .int .i64 (-1)]) := HCb.out.other (by omega)
  have HQc : Hid (Cl (World.setCell w' ⟨w.heap.size + 1 + 1 + 1, 12, none⟩ (.int .i64 3)) Q [.int .i64 7]) := HQb.out.other (by omega)
  have HPc : Hid (Cl (World.setCell w' ⟨w.heap.size + 1 + 1 + 1, 12, none⟩ (.int .i64 3)) P [.int .i64 1, .int .i64 65536, .slice wa 0 wc]) := HPb.out.other (by omega)
  have HXc : Hid (Cl (World.setCell w' ⟨w.heap.size + 1 + 1 + 1, 12, none⟩ (.int .i64 3)) w.heap.size [.int .i64 0, .int .i64 0, .slice none 0 0, .int .i64 0]) := HXb.out.other (by omega)
  have HBc : Hid (Below w.heap.size w (World.setCell w' ⟨w.heap.size + 1 + 1 + 1, 12, none⟩ (.int .i64 3))) := HBb.out.setCell (p := ⟨w.heap.size + 1 + 1 + 1, 12, none⟩) (by show w.heap.size ≤ w.heap.size + 1 + 1 + 1; omega) _
  have HOc : Hid (Cl (World.setCell w' ⟨w.heap.size + 1 + 1 + 1, 12, none⟩ (.int .i64 3)) g [.int .u8 55, .int .u8 10]) := HOb.out.other (by have := HOg.out; omega)
  clear n1
  go_wp2_with fail
  have n1 := HN.out
  have n2 := HL.out
  refine (do_ret (w.heap.size + 1 + 1 + 1) C Q P ca pa x z y wa wc _ _ HCc.out HQc.out HRc.out rfl rfl rfl rfl HPc.out (HPr.out.below HBc.out).ib (by omega) (by omega) (by omega) (by omega)).mono ?_
  rintro e wc2 ⟨rfl, ho, hr⟩
  have HR3 : Hid (Cl wc2 (w.heap.size + 1 + 1 + 1) (rl p (w.heap.size + 1) (w.heap.size + 1 + 1) (.slice (some ⟨C, 0, none⟩) 0 ca) (.slice (some ⟨P, 0, none⟩) 0 pa) 65544 1 0 (.slice (some ⟨g, 0, none⟩) 2 cap) 3)) := hr
  have HX3 : Hid (Cl wc2 w.heap.size [.int .i64 0, .int .i64 0, .slice none 0 0, .int .i64 0]) := HXc.out.onl ho (fun e => by omega)
  have HB3 : Hid (Below w.heap.size w wc2) := Onl.below (Nat.le_refl _) HBc.out ho (fun b e => by omega)
  have HO3 : Hid (Cl wc2 g [.int .u8 55, .int .u8 10]) := HOc.out.onl ho (fun e => by have := HOg.out; omega)
  clear ho hr
  clear n1 n2 HRb HCb HQb HPb HXb HBb HRc HCc HQc HPc HXc HBc r12 z12 HOb HOc HO2
  go_wp2_with fail
  have r9 := HR3.out.cell (j := 9) rfl
  have r10 := HR3.out.cell (j := 10) rfl
  have r11 := HR3.out.cell (j := 11) rfl
  have r12 := HR3.out.cell (j := 12) rfl
  have x0 := HX3.out.cell (j := 0) rfl
  have x1 := HX3.out.cell (j := 1) rfl
  have x2 := HX3.out.cell (j := 2) rfl
  have x3 := HX3.out.cell (j := 3) rfl
  have zx0 := HX3.out.fz 0
  have zx1 := HX3.out.fz 1
  have zx2 := HX3.out.fz 2
  have zx3 := HX3.out.fz 3
  clear hmm
  rw [rounds_succ]
  have HX4 : Hid (Cl ((((wc2.setCell ⟨w.heap.size, 0, none⟩ (.int .i64 1)).setCell ⟨w.heap.size, 1, none⟩ (.int .i64 0)).setCell ⟨w.heap.size, 2, none⟩ (.slice (some ⟨g, 0, none⟩) 2 cap)).setCell ⟨w.heap.size, 3, none⟩ (.int .i64 3)) w.heap.size [.int .i64 1, .int .i64 0, .slice (some ⟨g, 0, none⟩) 2 cap, .int .i64 3]) := (((HX3.out.set (o := 0) (by simp) _).set (o := 1) (by simp) _).set (o := 2) (by simp) _).set (o := 3) (by simp) _
  have HB4 : Hid (Below w.heap.size w ((((wc2.setCell ⟨w.heap.size, 0, none⟩ (.int .i64 1)).setCell ⟨w.heap.size, 1, none⟩ (.int .i64 0)).setCell ⟨w.heap.size, 2, none⟩ (.slice (some ⟨g, 0, none⟩) 2 cap)).setCell ⟨w.heap.size, 3, none⟩ (.int .i64 3))) := ((((HB3.out.setCell (p := ⟨w.heap.size, 0, none⟩) (Nat.le_refl _) _).setCell (p := ⟨w.heap.size, 1, none⟩) (Nat.le_refl _) _).setCell (p := ⟨w.heap.size, 2, none⟩) (Nat.le_refl _) _).setCell (p := ⟨w.heap.size, 3, none⟩) (Nat.le_refl _) _)
  have HO4 : Hid (Cl ((((wc2.setCell ⟨w.heap.size, 0, none⟩ (.int .i64 1)).setCell ⟨w.heap.size, 1, none⟩ (.int .i64 0)).setCell ⟨w.heap.size, 2, none⟩ (.slice (some ⟨g, 0, none⟩) 2 cap)).setCell ⟨w.heap.size, 3, none⟩ (.int .i64 3)) g [.int .u8 55, .int .u8 10]) := by
    have n1 := HN.out
    have n2 := HOg.out
    exact ((((HO3.out.other (by omega)).other (by omega)).other (by omega)).other (by omega))
  go_wp2
  clear x0 x1 x2 x3 zx0 zx1 zx2 zx3
  generalize (((wc2.setCell ⟨w.heap.size, 0, none⟩ (.int .i64 1)).setCell ⟨w.heap.size, 1, none⟩ (.int .i64 0)).setCell ⟨w.heap.size, 2, none⟩ (.slice (some ⟨g, 0, none⟩) 2 cap)).setCell ⟨w.heap.size, 3, none⟩ (.int .i64 3) = Wf at *
  have c0 := HX4.out.cell (j := 0) rfl
  have c1 := HX4.out.cell (j := 1) rfl
  have c2 := HX4.out.cell (j := 2) rfl
  have c3 := HX4.out.cell (j := 3) rfl
  exact bodyPost_ret (v := .agg #[.int .i64 1, .int .i64 0, .slice (some ⟨g, 0, none⟩) 2 cap, .int .i64 3]) (by simp [results, Tryd.results13, go_sem, c0, c1, c2, c3]) rfl ⟨g, cap, rfl, HO4.out, HB4.out, by have := HN.out; have := HOg.out; omega⟩
set_option maxRecDepth 20000 in
set_option maxHeartbeats 8000000 in
theorem outcome_2 (p y x z : Nat) (w : World) (hP : Pr w p y x z) : Calls Tryd.prog 13 #[.slice (some ⟨p, 0, none⟩) 1 1, .slice none 0 0, .int .i64 2] w fun e w' => ∃ g cap, e = .returned (.agg #[.int .i64 2, .int .i64 0, .slice (some ⟨g, 0, none⟩) 2 cap, .int .i64 2]) ∧ Cl w' g [.int .u8 55, .int .u8 10] ∧ Below w.heap.size w w' ∧ w.heap.size ≤ g := by
  have HPr : Hid (Pr w p y x z) := hP
  have hmm := @run_makeMap Tryd.prog
  obtain ⟨p0, p1, p2, p3, p4, _, _, lp, _⟩ := hP
  have g0 : ∀ j v, w.cell? ⟨p, j, none⟩ = some v → ∀ o1 o2 o3 o4, ((((w.alloc o1).alloc o2).alloc o3).alloc o4).cell? ⟨p, j, none⟩ = some v := fun j v hv o1 o2 o3 o4 => acell (by simp; omega) (acell (by simp; omega) (acell (by simp; omega) (acell lp hv _) _) _) _
  have p0' := g0 _ _ p0
  have p1' := g0 _ _ p1
  have p2' := g0 _ _ p2
  have p3' := g0 _ _ p3
  have p4' := g0 _ _ p4
  have HW : Hid (∃ W, W = ((((w.alloc (.cells #[.int .i64 0, .int .i64 0, .slice none 0 0, .int .i64 0] 30)).alloc (.map #[] 0)).alloc (.map oes 14)).alloc (.cells #[.slice (some ⟨p, 0, none⟩) 1 1, .map (some (w.heap.size + 1)), .map (some (w.heap.size + 1 + 1)), .slice none 0 0, .slice none 0 0, .int .i64 0, .int .i64 65536, .int .i64 0, .slice none 0 0, .int .i64 0, .int .i64 0, .slice none 0 0, .int .i64 0] 60)).alloc (.cells #[.string ⟨#[109, 97, 105, 110]⟩, .int .i64 0, .int .i64 1, .int .i64 0, .slice (some ⟨y, 0, none⟩) 1 1] 43) ∧ Below w.heap.size w W ∧ W.heap.size = w.heap.size + 5 ∧ W.heap[w.heap.size + 1]? = some (.map #[] 0) ∧ Cl W (w.heap.size + 1 + 1 + 1) #[.slice (some ⟨p, 0, none⟩) 1 1, .map (some (w.heap.size + 1)), .map (some (w.heap.size + 1 + 1)), .slice none 0 0, .slice none 0 0, .int .i64 0, .int .i64 65536, .int .i64 0, .slice none 0 0, .int .i64 0, .int .i64 0, .slice none 0 0, .int .i64 0].toList ∧ Cl W w.heap.size [.int .i64 0, .int .i64 0, .slice none 0 0, .int .i64 0] ∧ Cl W (w.heap.size + 1 + 1 + 1 + 1) [.string ⟨#[109, 97, 105, 110]⟩, .int .i64 0, .int .i64 1, .int .i64 0, .slice (some ⟨y, 0, none⟩) 1 1]) := by
    refine ⟨_, rfl, (((((G.refl w).alloc _).alloc _).alloc _).alloc _ |>.alloc _).below, by simp, ?_, ?_, ?_, ?_⟩
    · rw [(Go.MapKept.heap_alloc _ _).2 _ (by simp), (Go.MapKept.heap_alloc _ _).2 _ (by simp), (Go.MapKept.heap_alloc _ _).2 _ (by simp), (show w.heap.size + 1 = (w.alloc (.cells #[.int .i64 0, .int .i64 0, .slice none 0 0, .int .i64 0] 30)).heap.size by simp), (Go.MapKept.heap_alloc _ _).1]
    · refine Cl.alloc ?_ _
      have t := Cl.new (((w.alloc (.cells #[.int .i64 0, .int .i64 0, .slice none 0 0, .int .i64 0] 30)).alloc (.map #[] 0)).alloc (.map oes 14)) (#[.slice (some ⟨p, 0, none⟩) 1 1, .map (some (w.heap.size + 1)), .map (some (w.heap.size + 1 + 1)), .slice none 0 0, .slice none 0 0, .int .i64 0, .int .i64 65536, .int .i64 0, .slice none 0 0, .int .i64 0, .int .i64 0, .slice none 0 0, .int .i64 0].toList) 60
      rw [show (((w.alloc (.cells #[.int .i64 0, .int .i64 0, .slice none 0 0, .int .i64 0] 30)).alloc (.map #[] 0)).alloc (.map oes 14)).heap.size = w.heap.size + 1 + 1 + 1 by simp] at t
      exact t
    · exact ((((Cl.new w [.int .i64 0, .int .i64 0, .slice none 0 0, .int .i64 0] 30).alloc _).alloc _).alloc _).alloc _
    · have t := Cl.new ((((w.alloc (.cells #[.int .i64 0, .int .i64 0, .slice none 0 0, .int .i64 0] 30)).alloc (.map #[] 0)).alloc (.map oes 14)).alloc (.cells #[.slice (some ⟨p, 0, none⟩) 1 1, .map (some (w.heap.size + 1)), .map (some (w.heap.size + 1 + 1)), .slice none 0 0, .slice none 0 0, .int .i64 0, .int .i64 65536, .int .i64 0, .slice none 0 0, .int .i64 0, .int .i64 0, .slice none 0 0, .int .i64 0] 60)) [.string ⟨#[109, 97, 105, 110]⟩, .int .i64 0, .int .i64 1, .int .i64 0, .slice (some ⟨y, 0, none⟩) 1 1] 43
      rw [show ((((w.alloc (.cells #[.int .i64 0, .int .i64 0, .slice none 0 0, .int .i64 0] 30)).alloc (.map #[] 0)).alloc (.map oes 14)).alloc (.cells #[.slice (some ⟨p, 0, none⟩) 1 1, .map (some (w.heap.size + 1)), .map (some (w.heap.size + 1 + 1)), .slice none 0 0, .slice none 0 0, .int .i64 0, .int .i64 65536, .int .i64 0, .slice none 0 0, .int .i64 0, .int .i64 0, .slice none 0 0, .int .i64 0] 60)).heap.size = w.heap.size + 1 + 1 + 1 + 1 by simp] at t
      exact t
  clear g0 p0 p1 p2 p3 p4
  go_enter Tryd.func13, Tryd.ntmps13
  go_wp2_with (first | (go_at_call 17; refine (operations7 _).mono ?_; rintro e w' ⟨rfl, rfl⟩))
  refine wp_loop_rounds 2 ?_
  rw [rounds_succ]
  go_wp2
  obtain ⟨W, hW, hB, hsz, hm, hr, hx, hb⟩ := HW.out
  rw [← hW]
  have HB : Hid (Below w.heap.size w W) := hB
  have HR : Hid (Cl W (w.heap.size + 1 + 1 + 1) #[.slice (some ⟨p, 0, none⟩) 1 1, .map (some (w.heap.size + 1)), .map (some (w.heap.size + 1 + 1)), .slice none 0 0, .slice none 0 0, .int .i64 0, .int .i64 65536, .int .i64 0, .slice none 0 0, .int .i64 0, .int .i64 0, .slice none 0 0, .int .i64 0].toList) := hr
  have HX : Hid (Cl W w.heap.size [.int .i64 0, .int .i64 0, .slice none 0 0, .int .i64 0]) := hx
  have HS : Hid (W.heap.size = w.heap.size + 5) := hsz
  have r1 := hr.cell (j := 1) rfl
  have b0 := hb.cell (j := 0) rfl
  have hu := upd59 (w.heap.size + 1) ⟨#[109, 97, 105, 110]⟩ (.int .i64 0) #[] 0 W.drew hm (by rfl)
  clear HW hW hB hr hx hb hsz hm p0' p1' p2' p3' p4'
  go_region
  have HBV : Hid (Below w.heap.size w (swp W.drew (w.heap.size + 1) (.map #[{ key := .string ⟨#[109, 97, 105, 110]⟩, val := .int .i64 0, born := 0 }] 1))) := swp_below HB.out.drew _ _ (by omega)
  have HRV : Hid (Cl (swp W.drew (w.heap.size + 1) (.map #[{ key := .string ⟨#[109, 97, 105, 110]⟩, val := .int .i64 0, born := 0 }] 1)) (w.heap.size + 1 + 1 + 1) (rl p (w.heap.size + 1) (w.heap.size + 1 + 1) (.slice none 0 0) (.slice none 0 0) 65536 0 0 (.slice none 0 0) 0)) := HR.out.drew.keep (swp_heap _ _ _ _ (by omega))
  have HXV : Hid (Cl (swp W.drew (w.heap.size + 1) (.map #[{ key := .string ⟨#[109, 97, 105, 110]⟩, val := .int .i64 0, born := 0 }] 1)) w.heap.size [.int .i64 0, .int .i64 0, .slice none 0 0, .int .i64 0]) := HX.out.drew.keep (swp_heap _ _ _ _ (by omega))
  have HSV : Hid ((swp W.drew (w.heap.size + 1) (.map #[{ key := .string ⟨#[109, 97, 105, 110]⟩, val := .int .i64 0, born := 0 }] 1)).heap.size = w.heap.size + 5) := by show _ = _; rw [swp_size]; exact HS.out
  clear HB HR HX HS r1 b0 hu
  generalize swp W.drew (w.heap.size + 1) (.map #[{ key := .string ⟨#[109, 97, 105, 110]⟩, val := .int .i64 0, born := 0 }] 1) = V at *
  go_wp2
  rw [rounds_succ]
  go_wp2_with fail
  refine (enter33 (w.heap.size + 1 + 1 + 1) p y x z _ V HRV.out rfl rfl rfl rfl rfl (HPr.out.below HBV.out)).mono ?_
  rintro e w1 ⟨rfl, C, ca, Q, P, pa, wa, wc, ho, hr, hc, hq, hp, l1, l2, l3⟩
  have HN : Hid (w.heap.size + 5 ≤ Q ∧ Q < P ∧ P < C) := ⟨by have := HSV.out; omega, l2, l3⟩
  have HB0 : Hid (Below w.heap.size w w1) := Onl.below (Nat.le_refl _) HBV.out ho (fun b e => by omega)
  have HR0 : Hid (Cl w1 (w.heap.size + 1 + 1 + 1) (rl p (w.heap.size + 1) (w.heap.size + 1 + 1) (.slice (some ⟨C, 0, none⟩) 1 ca) (.slice (some ⟨P, 0, none⟩) 1 pa) 65544 0 0 (.slice none 0 0) 0)) := hr
  have HC0 : Hid (Cl w1 C [.slice (some ⟨y, 0, none⟩) 1 1, .slice (some ⟨Q, 0, none⟩) 1 1, .int .i64 65536, .int .i64 0, .int .i64 0, .int .i64 0, .int .i64 (-1)]) := hc
  have HQ0 : Hid (Cl w1 Q [.int .i64 0]) := hq
  have HP0 : Hid (Cl w1 P [.int .i64 1, .int .i64 65536, .slice wa 0 wc]) := hp
  have HX0 : Hid (Cl w1 w.heap.size [.int .i64 0, .int .i64 0, .slice none 0 0, .int .i64 0]) := HXV.out.onl ho (fun e => by omega)
  have HL : Hid (p < w.heap.size ∧ y < w.heap.size ∧ x < w.heap.size ∧ z < w.heap.size) := ⟨HPr.out.lp, HPr.out.ly, HPr.out.ib.lx, HPr.out.ib.lz⟩
  clear ho hr hc hq hp l1 l2 l3 HBV HRV HXV HSV
  go_wp2_with fail
  refine wp_loop_rounds 4 ?_
  have r9 := HR0.out.cell (j := 9) rfl
  have hIn : Hid (Calls Tryd.prog 19 #[.pointer (some ⟨w.heap.size + 1 + 1 + 1, 0, none⟩)] w1 fun e w' => e = .returned (.pointer (some ⟨x, 0, none⟩)) ∧ ∃ n, w' = World.drewN w1 n) := instruction34 (w.heap.size + 1 + 1 + 1) C ca y x 0 w1 (by omega) (HR0.out.cell (j := 3) rfl) (HC0.out.cell (j := 0) rfl) (HC0.out.cell (j := 4) rfl) (HC0.out.cell (j := 5) rfl) (HPr.out.below HB0.out).by_
  rw [rounds_succ]
  go_wp2_with fail
  refine hIn.out.mono ?_
  rintro e wb0 ⟨rfl, n0, hw0⟩
  have hb : Below (w1).heap.size w1 wb0 := by rw [hw0]; exact below_drewN (Below.refl _ _) n0
  have HBb : Hid (Below w.heap.size w wb0) := HB0.out.trans (hb.mono HB0.out.size)
  have HRb : Hid (Cl wb0 (w.heap.size + 1 + 1 + 1) (rl p (w.heap.size + 1) (w.heap.size + 1 + 1) (.slice (some ⟨C, 0, none⟩) 1 ca) (.slice (some ⟨P, 0, none⟩) 1 pa) 65544 0 0 (.slice none 0 0) 0)) := HR0.out.below hb
  have HCb : Hid (Cl wb0 C [.slice (some ⟨y, 0, none⟩) 1 1, .slice (some ⟨Q, 0, none⟩) 1 1, .int .i64 65536, .int .i64 0, .int .i64 0, .int .i64 0, .int .i64 (-1)]) := HC0.out.below hb
  have HQb : Hid (Cl wb0 Q [.int .i64 0]) := HQ0.out.below hb
  have HPb : Hid (Cl wb0 P [.int .i64 1, .int .i64 65536, .slice wa 0 wc]) := HP0.out.below hb
  have HXb : Hid (Cl wb0 w.heap.size [.int .i64 0, .int .i64 0, .slice none 0 0, .int .i64 0]) := HX0.out.below hb
  have r12 := HRb.out.cell (j := 12) rfl
  have z12 := HRb.out.fz 12
  clear hb hw0 r9 HR0 HC0 HQ0 HP0 HX0 HB0 hIn
  go_wp2_with fail
  refine (deep_1 (w.heap.size + 1 + 1 + 1) x 0 wb0 ((HPr.out.below HBb.out).ib.at_ 0 _ rfl)).mono ?_
  rintro e w' ⟨rfl, hw'⟩
  subst hw'
  have n1 := HN.out
  have HRc : Hid (Cl (World.setCell w' ⟨w.heap.size + 1 + 1 + 1, 12, none⟩ (.int .i64 1)) (w.heap.size + 1 + 1 + 1) (rl p (w.heap.size + 1) (w.heap.size + 1 + 1) (.slice (some ⟨C, 0, none⟩) 1 ca) (.slice (some ⟨P, 0, none⟩) 1 pa) 65544 0 0 (.slice none 0 0) 1)) := HRb.out.set (by simp [rl]) _
  have HCc : Hid (Cl (World.setCell w' ⟨w.heap.size + 1 + 1 + 1, 12, none⟩ (.int .i64 1)) C [.slice (some ⟨y, 0, none⟩) 1 1, .slice (some ⟨Q, 0, none⟩) 1 1, .int .i64 65536, .int .i64 0, .int .i64 0, .int .i64 0, .int .i64 (-1)]) := HCb.out.other (by omega)
  have HQc : Hid (Cl (World.setCell w' ⟨w.heap.size + 1 + 1 + 1, 12, none⟩ (.int .i64 1)) Q [.int .i64 0]) := HQb.out.other (by omega)
  have HPc : Hid (Cl (World.setCell w' ⟨w.heap.size + 1 + 1 + 1, 12, none⟩ (.int .i64 1)) P [.int .i64 1, .int .i64 65536, .slice wa 0 wc]) := HPb.out.other (by omega)
  have HXc : Hid (Cl (World.setCell w' ⟨w.heap.size + 1 + 1 + 1, 12, none⟩ (.int .i64 1)) w.heap.size [.int .i64 0, .int .i64 0, .slice none 0 0, .int .i64 0]) := HXb.out.other (by omega)
  have HBc : Hid (Below w.heap.size w (World.setCell w' ⟨w.heap.size + 1 + 1 + 1, 12, none⟩ (.int .i64 1))) := HBb.out.setCell (p := ⟨w.heap.size + 1 + 1 + 1, 12, none⟩) (by show w.heap.size ≤ w.heap.size + 1 + 1 + 1; omega) _
  clear n1
  go_wp2_with fail
  have n1 := HN.out
  have n2 := HL.out
  refine (do_const (w.heap.size + 1 + 1 + 1) C Q ca x z y _ _ HCc.out HQc.out HRc.out rfl rfl (HPr.out.below HBc.out).ib (by omega) (by omega)).mono ?_
  rintro e wc0 ⟨rfl, ho, hc, hq⟩
  have HR1 : Hid (Cl wc0 (w.heap.size + 1 + 1 + 1) (rl p (w.heap.size + 1) (w.heap.size + 1 + 1) (.slice (some ⟨C, 0, none⟩) 1 ca) (.slice (some ⟨P, 0, none⟩) 1 pa) 65544 0 0 (.slice none 0 0) 1)) := HRc.out.onl ho (fun e => by omega)
  have HC1 : Hid (Cl wc0 C [.slice (some ⟨y, 0, none⟩) 1 1, .slice (some ⟨Q, 0, none⟩) 1 1, .int .i64 65536, .int .i64 0, .int .i64 0, .int .i64 1, .int .i64 (-1)]) := hc
  have HQ1 : Hid (Cl wc0 Q [.int .i64 7]) := hq
  have HP1 : Hid (Cl wc0 P [.int .i64 1, .int .i64 65536, .slice wa 0 wc]) := HPc.out.onl ho (fun e => by omega)
  have HX1 : Hid (Cl wc0 w.heap.size [.int .i64 0, .int .i64 0, .slice none 0 0, .int .i64 0]) := HXc.out.onl ho (fun e => by omega)
  have HB1 : Hid (Below w.heap.size w wc0) := Onl.below (Nat.le_refl _) HBc.out ho (fun b e => by omega)
  clear ho hc hq
  clear n1 n2 HRb HCb HQb HPb HXb HBb HRc HCc HQc HPc HXc HBc r12 z12
  go_wp2_with fail
  have r9 := HR1.out.cell (j := 9) rfl
  have hIn : Hid (Calls Tryd.prog 19 #[.pointer (some ⟨w.heap.size + 1 + 1 + 1, 0, none⟩)] wc0 fun e w' => e = .returned (.pointer (some ⟨x, 9, none⟩)) ∧ ∃ n, w' = World.drewN wc0 n) := instruction34 (w.heap.size + 1 + 1 + 1) C ca y x 1 wc0 (by omega) (HR1.out.cell (j := 3) rfl) (HC1.out.cell (j := 0) rfl) (HC1.out.cell (j := 4) rfl) (HC1.out.cell (j := 5) rfl) (HPr.out.below HB1.out).by_
  rw [rounds_succ]
  go_wp2_with fail
  refine hIn.out.mono ?_
  rintro e wb1 ⟨rfl, n1, hw1⟩
  have hb : Below (wc0).heap.size wc0 wb1 := by rw [hw1]; exact below_drewN (Below.refl _ _) n1
  have HBb : Hid (Below w.heap.size w wb1) := HB1.out.trans (hb.mono HB1.out.size)
  have HRb : Hid (Cl wb1 (w.heap.size + 1 + 1 + 1) (rl p (w.heap.size + 1) (w.heap.size + 1 + 1) (.slice (some ⟨C, 0, none⟩) 1 ca) (.slice (some ⟨P, 0, none⟩) 1 pa) 65544 0 0 (.slice none 0 0) 1)) := HR1.out.below hb
  have HCb : Hid (Cl wb1 C [.slice (some ⟨y, 0, none⟩) 1 1, .slice (some ⟨Q, 0, none⟩) 1 1, .int .i64 65536, .int .i64 0, .int .i64 0, .int .i64 1, .int .i64 (-1)]) := HC1.out.below hb
  have HQb : Hid (Cl wb1 Q [.int .i64 7]) := HQ1.out.below hb
  have HPb : Hid (Cl wb1 P [.int .i64 1, .int .i64 65536, .slice wa 0 wc]) := HP1.out.below hb
  have HXb : Hid (Cl wb1 w.heap.size [.int .i64 0, .int .i64 0, .slice none 0 0, .int .i64 0]) := HX1.out.below hb
  have r12 := HRb.out.cell (j := 12) rfl
  have z12 := HRb.out.fz 12
  clear hb hw1 r9 HR1 HC1 HQ1 HP1 HX1 HB1 hIn
  go_wp2_with fail
  refine (deep_call (w.heap.size + 1 + 1 + 1) C ca x 9 wb1 (HRb.out.cell (j := 3) rfl) ((HPr.out.below HBb.out).ib.at_ 9 _ rfl)).mono ?_
  rintro e w' ⟨rfl, hw'⟩
  subst hw'
  have n1 := HN.out
  have HRc : Hid (Cl (World.setCell w' ⟨w.heap.size + 1 + 1 + 1, 12, none⟩ (.int .i64 2)) (w.heap.size + 1 + 1 + 1) (rl p (w.heap.size + 1) (w.heap.size + 1 + 1) (.slice (some ⟨C, 0, none⟩) 1 ca) (.slice (some ⟨P, 0, none⟩) 1 pa) 65544 0 0 (.slice none 0 0) 2)) := HRb.out.set (by simp [rl]) _
  have HCc : Hid (Cl (World.setCell w' ⟨w.heap.size + 1 + 1 + 1, 12, none⟩ (.int .i64 2)) C [.slice (some ⟨y, 0, none⟩) 1 1, .slice (some ⟨Q, 0, none⟩) 1 1, .int .i64 65536, .int .i64 0, .int .i64 0, .int .i64 1, .int .i64 (-1)]) := HCb.out.other (by omega)
  have HQc : Hid (Cl (World.setCell w' ⟨w.heap.size + 1 + 1 + 1, 12, none⟩ (.int .i64 2)) Q [.int .i64 7]) := HQb.out.other (by omega)
  have HPc : Hid (Cl (World.setCell w' ⟨w.heap.size + 1 + 1 + 1, 12, none⟩ (.int .i64 2)) P [.int .i64 1, .int .i64 65536, .slice wa 0 wc]) := HPb.out.other (by omega)
  have HXc : Hid (Cl (World.setCell w' ⟨w.heap.size + 1 + 1 + 1, 12, none⟩ (.int .i64 2)) w.heap.size [.int .i64 0, .int .i64 0, .slice none 0 0, .int .i64 0]) := HXb.out.other (by omega)
  have HBc : Hid (Below w.heap.size w (World.setCell w' ⟨w.heap.size + 1 + 1 + 1, 12, none⟩ (.int .i64 2))) := HBb.out.setCell (p := ⟨w.heap.size + 1 + 1 + 1, 12, none⟩) (by show w.heap.size ≤ w.heap.size + 1 + 1 + 1; omega) _
  clear n1
  go_wp2_with fail
  have n1 := HN.out
  have n2 := HL.out
  refine (do_call7 (w.heap.size + 1 + 1 + 1) C Q ca x z y _ _ HCc.out HQc.out HRc.out rfl rfl rfl (HPr.out.below HBc.out).ib (by omega) (by omega) (by omega) (by omega) (by omega)).mono ?_
  rintro e wc1 ⟨rfl, g, cap, ho, hc, hr, hg, hge⟩
  have HR2 : Hid (Cl wc1 (w.heap.size + 1 + 1 + 1) (rl p (w.heap.size + 1) (w.heap.size + 1 + 1) (.slice (some ⟨C, 0, none⟩) 1 ca) (.slice (some ⟨P, 0, none⟩) 1 pa) 65544 0 0 (.slice (some ⟨g, 0, none⟩) 2 cap) 2)) := hr
  have HC2 : Hid (Cl wc1 C [.slice (some ⟨y, 0, none⟩) 1 1, .slice (some ⟨Q, 0, none⟩) 1 1, .int .i64 65536, .int .i64 0, .int .i64 0, .int .i64 2, .int .i64 (-1)]) := hc
  have HQ2 : Hid (Cl wc1 Q [.int .i64 7]) := HQc.out.onl ho (fun e => by omega)
  have HP2 : Hid (Cl wc1 P [.int .i64 1, .int .i64 65536, .slice wa 0 wc]) := HPc.out.onl ho (fun e => by omega)
  have HX2 : Hid (Cl wc1 w.heap.size [.int .i64 0, .int .i64 0, .slice none 0 0, .int .i64 0]) := HXc.out.onl ho (fun e => by omega)
  have HB2 : Hid (Below w.heap.size w wc1) := Onl.below (Nat.le_refl _) HBc.out ho (fun b e => by omega)
  have HO2 : Hid (Cl wc1 g [.int .u8 55, .int .u8 10]) := hg
  have HOg : Hid (C < g) := by have := HCc.out.lt; show C < g; omega
  clear ho hc hr hg hge
  clear n1 n2 HRb HCb HQb HPb HXb HBb HRc HCc HQc HPc HXc HBc r12 z12
  go_wp2_with fail
  have r9 := HR2.out.cell (j := 9) rfl
  have hIn : Hid (Calls Tryd.prog 19 #[.pointer (some ⟨w.heap.size + 1 + 1 + 1, 0, none⟩)] wc1 fun e w' => e = .returned (.pointer (some ⟨x, 18, none⟩)) ∧ ∃ n, w' = World.drewN wc1 n) := instruction34 (w.heap.size + 1 + 1 + 1) C ca y x 2 wc1 (by omega) (HR2.out.cell (j := 3) rfl) (HC2.out.cell (j := 0) rfl) (HC2.out.cell (j := 4) rfl) (HC2.out.cell (j := 5) rfl) (HPr.out.below HB2.out).by_
  rw [rounds_succ]
  go_wp2_with fail
  refine hIn.out.mono ?_
  rintro e wb2 ⟨rfl, n2, hw2⟩
  have hb : Below (wc1).heap.size wc1 wb2 := by rw [hw2]; exact below_drewN (Below.refl _ _) n2
  have HBb : Hid (Below w.heap.size w wb2) := HB2.out.trans (hb.mono HB2.out.size)
  have HRb : Hid (Cl wb2 (w.heap.size + 1 + 1 + 1) (rl p (w.heap.size + 1) (w.heap.size + 1 + 1) (.slice (some ⟨C, 0, none⟩) 1 ca) (.slice (some ⟨P, 0, none⟩) 1 pa) 65544 0 0 (.slice (some ⟨g, 0, none⟩) 2 cap) 2)) := HR2.out.below hb
  have HCb : Hid (Cl wb2 C [.slice (some ⟨y, 0, none⟩) 1 1, .slice (some ⟨Q, 0, none⟩) 1 1, .int .i64 65536, .int .i64 0, .int .i64 0, .int .i64 2, .int .i64 (-1)]) := HC2.out.below hb
  have HQb : Hid (Cl wb2 Q [.int .i64 7]) := HQ2.out.below hb
  have HPb : Hid (Cl wb2 P [.int .i64 1, .int .i64 65536, .slice wa 0 wc]) := HP2.out.below hb
  have HXb : Hid (Cl wb2 w.heap.size [.int .i64 0, .int .i64 0, .slice none 0 0, .int .i64 0]) := HX2.out.below hb
  have HOb : Hid (Cl wb2 g [.int .u8 55, .int .u8 10]) := HO2.out.below hb
  have r12 := HRb.out.cell (j := 12) rfl
  have z12 := HRb.out.fz 12
  clear hb hw2 r9 HR2 HC2 HQ2 HP2 HX2 HB2 hIn
  go_wp2_with fail
  refine (end36 (w.heap.size + 1 + 1 + 1) 2 0 _ wb2 HRb.out rfl).mono ?_
  rintro e wc2 ⟨rfl, hw'⟩
  have n1 := HN.out
  have HR3 : Hid (Cl wc2 (w.heap.size + 1 + 1 + 1) (rl p (w.heap.size + 1) (w.heap.size + 1 + 1) (.slice (some ⟨C, 0, none⟩) 1 ca) (.slice (some ⟨P, 0, none⟩) 1 pa) 65544 2 0 (.slice (some ⟨g, 0, none⟩) 2 cap) 2)) := by rw [hw']; exact (HRb.out.set (o := 9) (by simp [rl]) _).set (o := 10) (by simp [rl]) _
  have HX3 : Hid (Cl wc2 w.heap.size [.int .i64 0, .int .i64 0, .slice none 0 0, .int .i64 0]) := by rw [hw']; exact (HXb.out.other (by omega)).other (by omega)
  have HB3 : Hid (Below w.heap.size w wc2) := by rw [hw']; exact (HBb.out.setCell (p := ⟨w.heap.size + 1 + 1 + 1, 9, none⟩) (by show w.heap.size ≤ w.heap.size + 1 + 1 + 1; omega) _).setCell (p := ⟨w.heap.size + 1 + 1 + 1, 10, none⟩) (by show w.heap.size ≤ w.heap.size + 1 + 1 + 1; omega) _
  have HO3 : Hid (Cl wc2 g [.int .u8 55, .int .u8 10]) := by have := HOg.out; rw [hw']; exact (HOb.out.other (by omega)).other (by omega)
  clear n1 hw' HRb HCb HQb HPb HXb HBb r12 z12 HOb HO2
  have r9 := HR3.out.cell (j := 9) rfl
  have r10 := HR3.out.cell (j := 10) rfl
  have r11 := HR3.out.cell (j := 11) rfl
  have r12 := HR3.out.cell (j := 12) rfl
  have x0 := HX3.out.cell (j := 0) rfl
  have x1 := HX3.out.cell (j := 1) rfl
  have x2 := HX3.out.cell (j := 2) rfl
  have x3 := HX3.out.cell (j := 3) rfl
  have zx0 := HX3.out.fz 0
  have zx1 := HX3.out.fz 1
  have zx2 := HX3.out.fz 2
  have zx3 := HX3.out.fz 3
  clear hmm
  have HX4 : Hid (Cl ((((wc2.setCell ⟨w.heap.size, 0, none⟩ (.int .i64 2)).setCell ⟨w.heap.size, 1, none⟩ (.int .i64 0)).setCell ⟨w.heap.size, 2, none⟩ (.slice (some ⟨g, 0, none⟩) 2 cap)).setCell ⟨w.heap.size, 3, none⟩ (.int .i64 2)) w.heap.size [.int .i64 2, .int .i64 0, .slice (some ⟨g, 0, none⟩) 2 cap, .int .i64 2]) := (((HX3.out.set (o := 0) (by simp) _).set (o := 1) (by simp) _).set (o := 2) (by simp) _).set (o := 3) (by simp) _
  have HB4 : Hid (Below w.heap.size w ((((wc2.setCell ⟨w.heap.size, 0, none⟩ (.int .i64 2)).setCell ⟨w.heap.size, 1, none⟩ (.int .i64 0)).setCell ⟨w.heap.size, 2, none⟩ (.slice (some ⟨g, 0, none⟩) 2 cap)).setCell ⟨w.heap.size, 3, none⟩ (.int .i64 2))) := ((((HB3.out.setCell (p := ⟨w.heap.size, 0, none⟩) (Nat.le_refl _) _).setCell (p := ⟨w.heap.size, 1, none⟩) (Nat.le_refl _) _).setCell (p := ⟨w.heap.size, 2, none⟩) (Nat.le_refl _) _).setCell (p := ⟨w.heap.size, 3, none⟩) (Nat.le_refl _) _)
  have HO4 : Hid (Cl ((((wc2.setCell ⟨w.heap.size, 0, none⟩ (.int .i64 2)).setCell ⟨w.heap.size, 1, none⟩ (.int .i64 0)).setCell ⟨w.heap.size, 2, none⟩ (.slice (some ⟨g, 0, none⟩) 2 cap)).setCell ⟨w.heap.size, 3, none⟩ (.int .i64 2)) g [.int .u8 55, .int .u8 10]) := by
    have n1 := HN.out
    have n2 := HOg.out
    exact ((((HO3.out.other (by omega)).other (by omega)).other (by omega)).other (by omega))
  go_wp2
  clear x0 x1 x2 x3 zx0 zx1 zx2 zx3
  generalize (((wc2.setCell ⟨w.heap.size, 0, none⟩ (.int .i64 2)).setCell ⟨w.heap.size, 1, none⟩ (.int .i64 0)).setCell ⟨w.heap.size, 2, none⟩ (.slice (some ⟨g, 0, none⟩) 2 cap)).setCell ⟨w.heap.size, 3, none⟩ (.int .i64 2) = Wf at *
  have c0 := HX4.out.cell (j := 0) rfl
  have c1 := HX4.out.cell (j := 1) rfl
  have c2 := HX4.out.cell (j := 2) rfl
  have c3 := HX4.out.cell (j := 3) rfl
  exact bodyPost_ret (v := .agg #[.int .i64 2, .int .i64 0, .slice (some ⟨g, 0, none⟩) 2 cap, .int .i64 2]) (by simp [results, Tryd.results13, go_sem, c0, c1, c2, c3]) rfl ⟨g, cap, rfl, HO4.out, HB4.out, by have := HN.out; have := HOg.out; omega⟩
end Go.Proofs.YtdppoblbenbafaaDoor
