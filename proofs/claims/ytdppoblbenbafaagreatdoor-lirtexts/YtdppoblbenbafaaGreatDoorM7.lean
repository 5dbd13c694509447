/- LirTexts' law. -/
import Derived.Test.YtdppoblbenbafaaGreatDoorMC
import Derived.Test.YtdppoblbenbafaaGreatDoorDD
namespace Go.Proofs.YtdppoblbenbafaaGreatDoor
open Go.RowKit Go.Shelf
set_option maxHeartbeats 8000000
theorem inE_refl (x : Ins) : inE x x = true := by simp [inE]
theorem blE_refl (x : Blk) : blE x x = true := alE_refl inE inE_refl x.l
theorem fnE_refl (x : Fun) : fnE x x = true := by simp [fnE, alE_refl blE blE_refl]
set_option maxRecDepth 100000 in
theorem law5 (l q : List Fun) (p qo : Option Addr) (pc qc : Nat) (w : World) (hI : FunA w p pc l) (hQ : FunA w qo qc q) (hN : N64 l) (hp : Pow w) (hTf : Tfa w) (hTw : Twa w) (hTt : Tf w) : Calls Tryz.prog 5 #[.slice p l.length pc, .slice qo q.length qc] w fun e w' => e = .returned (.bool true) ∧ Below w.heap.size w w' := by
  have HI : Hid (FunA w p pc l) := hI
  have hxc := hI.1
  have hxc2 := hI.2.1
  have K16 : Hid (Calls Tryz.prog 16 #[.slice p l.length pc] w fun e w' => e = .returned (.tuple #[.string ⟨(txV l).toArray⟩, .int .i64 (if prB l then 0 else 6)]) ∧ Below w.heap.size w w') := text16 l p pc w hI hN hp hTf hTw
  have K17 : Hid (∀ W, Below w.heap.size w W → Calls Tryz.prog 17 #[.slice p l.length pc] W fun e w' => e = .returned (.tuple #[.string ⟨(txV l).toArray⟩, .int .i64 (if prB l then 0 else 6)]) ∧ Below W.heap.size W w') := fun W hW => rtext17 l p pc W (hI.below hW) hN
  have K21 : Hid (∀ W, Below w.heap.size w W → Calls Tryz.prog 21 #[.slice p l.length pc, .slice qo q.length qc] W fun e w' => e = .returned (.bool (alE fnE l q)) ∧ G W w') := fun W hW => same21 l q p qo pc qc W (hI.below hW) (hQ.below hW)
  have K22 : Hid (∀ W, Below w.heap.size w W → Calls Tryz.prog 22 #[.slice p l.length pc, .slice qo q.length qc] W fun e w' => e = .returned (.bool (alE fnE l q)) ∧ G W w') := fun W hW => rsame22 l q p qo pc qc W (hI.below hW) (hQ.below hW)
  have K2b : Hid (∀ W, Below w.heap.size w W → Calls Tryz.prog 21 #[.slice p l.length pc, .slice p l.length pc] W fun e w' => e = .returned (.bool true) ∧ G W w') := fun W hW => by
    have t := same21 l l p p pc pc W (hI.below hW) (hI.below hW)
    rw [alE_refl fnE fnE_refl l] at t
    exact t
  have K11 : Hid (∀ W, Below w.heap.size w W → Calls Tryz.prog 11 #[] W fun e w' => e = .returned (.bool true) ∧ Below W.heap.size W w') := fun W hW => speaks6 W (hTt.below hW)
  obtain ⟨n, hn⟩ : ∃ n, n = l.length := ⟨_, rfl⟩
  have HN : Hid (n = l.length) := hn
  rw [← hn] at hxc K16 K17 K21 K22 K2b ⊢
  clear hI hn hQ hN hp hTf hTw hTt
  generalize q.length = qn at *
  generalize (⟨(txV l).toArray⟩ : ByteArray) = TT at *
  generalize alE fnE l q = SS at *
  generalize (if prB l then (0 : Int) else 6) = EE at *
  go_enter Tryz.func5, Tryz.ntmps5
  go_wp2_with fail
  refine K16.out.mono ?_
  rintro e w1 ⟨rfl, hb1⟩
  have HB1 : Hid (Below w.heap.size w w1) := hb1
  clear hb1 K16
  go_wp2_with fail
  refine (K17.out w1 HB1.out).mono ?_
  rintro e w2 ⟨rfl, hb2⟩
  have HB2 : Hid (Below w.heap.size w w2) := HB1.out.trans (hb2.mono HB1.out.size)
  clear hb2 HB1 K17
  go_wp2
  go_loopw [9, 10, 11] (fun v _ _ wx => ∃ j : Nat, j ≤ n ∧ v = .int .i64 j ∧ Below w.heap.size w wx) (fun v _ _ _ => n - (intOf v).toNat)
  case atStart => exact ⟨0, Nat.zero_le _, rfl, HB2.out⟩
  case round =>
    obtain ⟨j, hj, rfl, hb⟩ := hrel
    generalize wr = V at *
    have HB : Hid (Below w.heap.size w V) := hb
    clear hb HB2
    by_cases hlt : j < n
    · obtain ⟨x, hx⟩ : ∃ x, l[j]? = some x := ⟨_, List.getElem?_eq_getElem (by have := HN.out; omega)⟩
      have hmem : x ∈ l := List.mem_of_getElem? hx
      have HIx : Hid (x.h.bl = x.bs.length ∧ BlkA w x.h.ba x.h.bc x.bs) := ⟨(HI.out.2.2.1 x hmem).1, (HI.out.2.2.1 x hmem).2.2⟩
      obtain ⟨g, oo, hp, hcc⟩ := (HI.out.below HB.out).2.2.2 (by have := HN.out; omega)
      have d4 := hcc j x hx 4 _ rfl
      have hgl : g < V.heap.size := World.block_lt_of_cell? _ _ d4
      have HD4 : Hid (∀ W, Below V.heap.size V W → W.cell? ⟨g, oo + j * 5 + 4, none⟩ = some (.slice x.h.ba x.h.bl x.h.bc)) := fun W hW => ((bcell hW).1 _ _ hgl).trans d4
      have hbl1 : x.h.bl ≤ x.h.bc := by rw [HIx.out.1]; exact HIx.out.2.1
      have hbl2 := HIx.out.2.2.1
      clear hcc hx hmem
      subst hp
      go_wp2
      go_loopw [10, 11] (fun v _ wx => ∃ m : Nat, m ≤ x.h.bl ∧ v = .int .i64 m ∧ Below V.heap.size V wx) (fun v _ _ => x.h.bl - (intOf v).toNat)
      case atStart => exact ⟨0, Nat.zero_le _, rfl, Below.refl _ _⟩
      case round =>
        obtain ⟨m, hm, rfl, hb2⟩ := hrel
        generalize wr = V2 at *
        have HB2 : Hid (Below V.heap.size V V2) := hb2
        have d5 := HD4.out V2 hb2
        clear hb2
        by_cases hmt : m < x.h.bl
        · obtain ⟨b, hb⟩ : ∃ b, x.bs[m]? = some b := ⟨_, List.getElem?_eq_getElem (by have := HIx.out.1; omega)⟩
          have hbm : b ∈ x.bs := List.mem_of_getElem? hb
          have HIb : Hid (InsA w b.xo b.xc b.l) := HIx.out.2.2.2.1 b hbm
          obtain ⟨g3, o3, e3, hc3⟩ := (HIx.out.2.below HB.out).2.2.2 (by have := HIx.out.1; omega)
          have c3 := hc3 m b hb
          have hg3 : g3 < V.heap.size := World.block_lt_of_cell? _ _ c3
          have HC3 : Hid (∀ W, Below V.heap.size V W → W.cell? ⟨g3, o3 + m, none⟩ = some (.slice b.xo b.l.length b.xc)) := fun W hW => ((bcell hW).1 _ _ hg3).trans c3
          have c4 := HC3.out V2 HB2.out
          have hil1 := HIb.out.1
          have hil2 := HIb.out.2.1
          clear hc3 hb hbm
          rw [e3] at d4 d5 HD4
          go_wp2
          go_loopw [11] (fun v wx => ∃ k : Nat, k ≤ b.l.length ∧ v = .int .i64 k ∧ Below V.heap.size V wx) (fun v _ => b.l.length - (intOf v).toNat)
          case atStart => exact ⟨0, Nat.zero_le _, rfl, HB2.out⟩
          case round =>
            obtain ⟨k, hk, rfl, hb6⟩ := hrel
            generalize wr = V3 at *
            have HB6 : Hid (Below V.heap.size V V3) := hb6
            have d6 := HD4.out V3 hb6
            have c6 := HC3.out V3 hb6
            clear hb6 d4 d5 c3 c4
            by_cases hkt : k < b.l.length
            · obtain ⟨i, hi⟩ : ∃ i, b.l[k]? = some i := ⟨_, List.getElem?_eq_getElem hkt⟩
              have hw6 : Below w.heap.size w V3 := HB.out.trans (HB6.out.mono HB.out.size)
              obtain ⟨g7, o7, e7, hc7⟩ := (HIb.out.below hw6).2.2.2 (by omega)
              have f0 := hc7 k i hi 0 _ rfl
              have f1 := hc7 k i hi 1 _ rfl
              have f2 := hc7 k i hi 2 _ rfl
              have f3 := hc7 k i hi 3 _ rfl
              have f4 := hc7 k i hi 4 _ rfl
              have f5 := hc7 k i hi 5 _ rfl
              have f6 := hc7 k i hi 6 _ rfl
              have f7 := hc7 k i hi 7 _ rfl
              have f8 := hc7 k i hi 8 _ rfl
              rw [Nat.add_zero] at f0
              have hg7 : g7 < V3.heap.size := World.block_lt_of_cell? _ _ f0
              rw [e7] at c6
              have hq1 : g < V3.heap.size := World.block_lt_of_cell? _ _ d6
              have hq2 : g3 < V3.heap.size := World.block_lt_of_cell? _ _ c6
              obtain ⟨S, hS⟩ : ∃ S : World → Prop, S = fun W => W.cell? ⟨g, oo + j * 5 + 4, none⟩ = some (.slice (some ⟨g3, o3, none⟩) x.h.bl x.h.bc) ∧ W.cell? ⟨g3, o3 + m, none⟩ = some (.slice (some ⟨g7, o7, none⟩) b.l.length b.xc) ∧ W.cell? ⟨g7, o7 + k * 9, none⟩ = some (.int .i64 i.op) ∧ W.cell? ⟨g7, o7 + k * 9 + 1, none⟩ = some (.int .i64 i.d) ∧ W.cell? ⟨g7, o7 + k * 9 + 2, none⟩ = some (.int .i64 i.a) ∧ W.cell? ⟨g7, o7 + k * 9 + 3, none⟩ = some (.int .i64 i.b) ∧ W.cell? ⟨g7, o7 + k * 9 + 4, none⟩ = some (.int .i64 i.n) ∧ W.cell? ⟨g7, o7 + k * 9 + 5, none⟩ = some (.string i.nm) ∧ W.cell? ⟨g7, o7 + k * 9 + 6, none⟩ = some (.slice i.ar i.gs.length i.ac) ∧ W.cell? ⟨g7, o7 + k * 9 + 7, none⟩ = some (.int .i64 i.to) ∧ W.cell? ⟨g7, o7 + k * 9 + 8, none⟩ = some (.int .i64 i.el) := ⟨_, rfl⟩
              have HSa : Hid (∀ W, Below V3.heap.size V3 W → S W) := fun W hW => by
                have t := (bcell hW).1
                rw [hS]
                exact ⟨(t _ _ hq1).trans d6, (t _ _ hq2).trans c6, (t _ _ hg7).trans f0, (t _ _ hg7).trans f1, (t _ _ hg7).trans f2, (t _ _ hg7).trans f3, (t _ _ hg7).trans f4, (t _ _ hg7).trans f5, (t _ _ hg7).trans f6, (t _ _ hg7).trans f7, (t _ _ hg7).trans f8⟩
              rw [hS] at HSa
              have HK1 : Hid (∀ W, Below V3.heap.size V3 W → Calls Tryz.prog 19 #[inV i] W (Told W (nxL i.op i.to i.el))) := fun W _ => next19 i W
              have HK2 : Hid (∀ W, Below V3.heap.size V3 W → Calls Tryz.prog 20 #[inV i] W (Told W (nxL i.op i.to i.el))) := fun W _ => rnext20 i W
              have HK3 : Hid (∀ W (L : List Int) ao ac bo bc, ArA W ao ac L → ArA W bo bc L → Calls Tryz.prog 18 #[.slice ao L.length ac, .slice bo L.length bc] W fun e w' => e = .returned (.bool true) ∧ G W w') := fun W L ao ac bo bc h1 h2 => by
                have t := ints18 L L ao bo ac bc W h1 h2
                rw [beq_self_eq_true] at t
                exact t
              unfold inV at HK1 HK2
              clear hc7 hi hS hw6 HI K21 K22 K2b K11 HIb HIx e3 e7
              generalize nxL i.op i.to i.el = NX at *
              generalize i.gs.length = al at *
              generalize b.l.length = bn at *
              go_wp2_with fail
              go_region_held3 (fun W => W.cell? ⟨g, oo + j * 5 + 4, none⟩ = some (.slice (some ⟨g3, o3, none⟩) x.h.bl x.h.bc) ∧ W.cell? ⟨g3, o3 + m, none⟩ = some (.slice (some ⟨g7, o7, none⟩) bn b.xc) ∧ W.cell? ⟨g7, o7 + k * 9, none⟩ = some (.int .i64 i.op) ∧ W.cell? ⟨g7, o7 + k * 9 + 1, none⟩ = some (.int .i64 i.d) ∧ W.cell? ⟨g7, o7 + k * 9 + 2, none⟩ = some (.int .i64 i.a) ∧ W.cell? ⟨g7, o7 + k * 9 + 3, none⟩ = some (.int .i64 i.b) ∧ W.cell? ⟨g7, o7 + k * 9 + 4, none⟩ = some (.int .i64 i.n) ∧ W.cell? ⟨g7, o7 + k * 9 + 5, none⟩ = some (.string i.nm) ∧ W.cell? ⟨g7, o7 + k * 9 + 6, none⟩ = some (.slice i.ar al i.ac) ∧ W.cell? ⟨g7, o7 + k * 9 + 7, none⟩ = some (.int .i64 i.to) ∧ W.cell? ⟨g7, o7 + k * 9 + 8, none⟩ = some (.int .i64 i.el)) (first | with_reducible exact HSa.out _ (Below.refl _ _) | with_reducible exact HSa.out _ (drew_g _) | with_reducible exact HSa.out _ HL1.out | with_reducible exact HSa.out _ HL2.out | with_reducible exact HSa.out _ HL3.out) (first | (go_at_call 19; refine (HK1.out _ (by first | with_reducible exact Below.refl _ _ | with_reducible exact drew_g _)).mono ?_; rintro e u1 ⟨ao, ac, rfl, hA1, hB1⟩; have HL1 : Hid (Below V3.heap.size V3 u1) := (by first | exact hB1 | exact (drew_g _).trans hB1); have HA1 : Hid (ArA u1 ao ac NX) := hA1; clear hA1 hB1; obtain ⟨p1, p2, p3, p4, p5, p6, p7, p8, p9, pa, pb⟩ := HSa.out _ HL1.out) | (go_at_call 20; refine (HK2.out _ HL1.out).mono ?_; rintro e u2 ⟨bo, bc, rfl, hA2, hB2⟩; have HL2 : Hid (Below V3.heap.size V3 u2) := HL1.out.trans (hB2.mono HL1.out.size); have HA2 : Hid (ArA u2 bo bc NX) := hA2; have HA3 : Hid (ArA u2 ao ac NX) := HA1.out.below hB2; clear hA2 hB2; obtain ⟨r1, r2, r3, r4, r5, r6, r7, r8, r9, ra, rb⟩ := HSa.out _ HL2.out) | (go_at_call 18; refine (HK3.out _ NX _ _ _ _ HA3.out HA2.out).mono ?_; rintro e u3 ⟨rfl, hg3⟩; have HL3 : Hid (Below V3.heap.size V3 u3) := HL2.out.trans (hg3.below.mono HL2.out.size); clear hg3))
              have HB9 : Hid (Below V.heap.size V u3) := HB6.out.trans (HL3.out.mono HB6.out.size)
              go_wp2
              exact ⟨⟨k + 1, by omega, by go_num, HB9.out⟩, by simp [intOf]; omega⟩

            · generalize b.l.length = bn at *
              obtain rfl : k = bn := by omega
              go_wp2
              exact ⟨⟨m + 1, by omega, by go_num, HB6.out⟩, by simp [intOf]; omega⟩
        · generalize x.h.bl = bl at *
          obtain rfl : m = bl := by omega
          have HBz : Hid (Below w.heap.size w V2) := HB.out.trans (HB2.out.mono HB.out.size)
          go_wp2
          exact ⟨⟨j + 1, by omega, by go_num, HBz.out⟩, by simp [intOf]; omega⟩
    · obtain rfl : j = n := by omega
      go_wp2_with fail
      refine (K21.out _ HB.out).mono ?_
      rintro e y1 ⟨rfl, hg⟩
      have HY1 : Hid (Below w.heap.size w y1) := HB.out.trans (hg.below.mono HB.out.size)
      clear hg
      go_wp2_with fail
      refine (K22.out _ HY1.out).mono ?_
      rintro e y2 ⟨rfl, hg⟩
      have HY2 : Hid (Below w.heap.size w y2) := HY1.out.trans (hg.below.mono HY1.out.size)
      clear hg
      go_wp2_with fail
      refine (K2b.out _ HY2.out).mono ?_
      rintro e y3 ⟨rfl, hg⟩
      have HY3 : Hid (Below w.heap.size w y3) := HY2.out.trans (hg.below.mono HY2.out.size)
      clear hg
      go_wp2_with fail
      refine (K11.out _ HY3.out).mono ?_
      rintro e y4 ⟨rfl, hg⟩
      have HY4 : Hid (Below w.heap.size w y4) := HY3.out.trans (hg.mono HY3.out.size)
      clear hg
      go_wp2
      go_ret
      exact ⟨rfl, HY4.out⟩
end Go.Proofs.YtdppoblbenbafaaGreatDoor
