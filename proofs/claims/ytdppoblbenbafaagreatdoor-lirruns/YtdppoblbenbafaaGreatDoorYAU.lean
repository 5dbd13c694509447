/- A function of the program, called. A function of the program, called without arguments. Arguments become a call's first registers. The run enters main. A call begins, in whatever run. -/
import Derived.Test.YtdppoblbenbafaaGreatDoorYAO
import Derived.Test.YtdppoblbenbafaaGreatDoorYAD
import Derived.Test.YtdppoblbenbafaaGreatDoorYAE
import Derived.Test.YtdppoblbenbafaaGreatDoorYAN
import Derived.Laws.CopyRow
import Derived.Test.YtdppoblbenbafaaGreatDoorYAT
namespace Go.Proofs.YtdppoblbenbafaaGreatDoor
section
open Go.RowKit Go.Shelf
set_option maxRecDepth 20000
set_option maxHeartbeats 4000000
/-- Arguments, as far as they are laid. -/
structure ArgI (w : World) (g al t : Nat) (vs : List Int) (wx : World) : Prop where
  bel : Below w.heap.size w wx
  bk : ∃ cs, Bk wx g 2 cs ∧ cs.length = al ∧ ∀ s u, s < t → vs[s]? = some u → cs[s]? = some (.int .i64 u)
theorem args_all {vs : List Int} {cs : List Value} {al : Nat} (hv : vs.length = al) (hc : cs.length = al) (h : ∀ s u, s < al → vs[s]? = some u → cs[s]? = some (.int .i64 u)) : cs = vs.map fun u => .int .i64 u := by
  apply List.ext_getElem?
  intro i
  by_cases hi : i < al
  · rw [h i vs[i] hi (List.getElem?_eq_getElem (by omega)), List.getElem?_map, List.getElem?_eq_getElem (by omega)]
    rfl
  · rw [List.getElem?_eq_none (by omega), List.getElem?_eq_none (by simp; omega)]
theorem call_enter (R C ca n x o ac al m rc q z zo k m1 : Nat) (nm : ByteArray) (gs : Nat → Nat) (vs : List Int) (d : Int) (Q : World → Prop) (w : World) (h3 : w.cell? ⟨R, 3, none⟩ = some (.slice (some ⟨C, 0, none⟩) (n + 1) ca)) (hn : n < 1000000) (hal : al ≤ 4096) (hvl : vs.length = al) (c1 : w.cell? ⟨C, n * 7 + 1, none⟩ = some (.slice (some ⟨q, 0, none⟩) m rc)) (ha : ∀ t, t < al → gs t < m) (qa : ∀ t u, vs[t]? = some u → w.cell? ⟨q, gs t, none⟩ = some (.int .i64 u)) (az : ∀ t, t < al → w.cell? ⟨z, zo + t, none⟩ = some (.int .i64 (gs t))) (i1 : w.cell? ⟨x, o + 1, none⟩ = some (.int .i64 d)) (i5 : w.cell? ⟨x, o + 5, none⟩ = some (.string nm)) (i6 : w.cell? ⟨x, o + 6, none⟩ = some (.slice (some ⟨z, zo, none⟩) al ac)) (n1 : (nm.toList == [114, 116, 46, 112, 114, 105, 110, 116]) = false) (n2 : (nm.toList == [114, 116, 46, 114, 101, 97, 100]) = false) (n3 : (nm.toList == [114, 116, 46, 97, 108, 108, 111, 99]) = false) (n4 : (nm.toList == [114, 116, 46, 102, 114, 101, 101]) = false) (r1 : w.cell? ⟨R, 1, none⟩ = some (.map (some m1))) (hlk : ∀ W, Below w.heap.size w W → (Instr.lookup 58 (.map (some m1)) (.string nm) false).run Tryz.prog W = .ok (.int .i64 k) W) (hop : ∀ W, Below w.heap.size w W → Bk W w.heap.size 2 (vs.map fun u => .int .i64 u) → Calls Tryz.prog 68 #[.pointer (some ⟨R, 0, none⟩), .int .i64 k, .slice (some ⟨w.heap.size, 0, none⟩) al al, .int .i64 d] W fun e w' => e = .returned (.tuple #[]) ∧ Q w') : Calls Tryz.prog 101 #[.pointer (some ⟨R, 0, none⟩), .pointer (some ⟨x, o, none⟩)] w fun e w' => e = .returned (.tuple #[]) ∧ Q w' := by
  have hI : Hid (Calls Tryz.prog 98 #[.pointer (some ⟨R, 0, none⟩)] w fun e w' => e = .returned (.pointer (some ⟨C, n * 7, none⟩)) ∧ ∃ k, w' = w.drewN k) := innermost41g R C ca n w h3 hn
  have HOp : Hid (∀ W, Below w.heap.size w W → Bk W w.heap.size 2 (vs.map fun u => .int .i64 u) → Calls Tryz.prog 68 #[.pointer (some ⟨R, 0, none⟩), .int .i64 k, .slice (some ⟨w.heap.size, 0, none⟩) al al, .int .i64 d] W fun e w' => e = .returned (.tuple #[]) ∧ Q w') := hop
  have HLk : Hid (∀ W, Below w.heap.size w W → (Instr.lookup 58 (.map (some m1)) (.string nm) false).run Tryz.prog W = .ok (.int .i64 k) W) := hlk
  have HF : Hid (∀ W, Below w.heap.size w W → W.cell? ⟨C, n * 7 + 1, none⟩ = some (.slice (some ⟨q, 0, none⟩) m rc) ∧ W.cell? ⟨x, o + 1, none⟩ = some (.int .i64 d) ∧ W.cell? ⟨x, o + 5, none⟩ = some (.string nm) ∧ W.cell? ⟨x, o + 6, none⟩ = some (.slice (some ⟨z, zo, none⟩) al ac) ∧ W.cell? ⟨R, 1, none⟩ = some (.map (some m1)) ∧ (∀ t u, vs[t]? = some u → W.cell? ⟨q, gs t, none⟩ = some (.int .i64 u)) ∧ (∀ t, t < al → W.cell? ⟨z, zo + t, none⟩ = some (.int .i64 (gs t)))) := fun W hW => by
    have key : ∀ b t v, w.cell? ⟨b, t, none⟩ = some v → W.cell? ⟨b, t, none⟩ = some v := fun b t v h => by rw [hW.cell (p := ⟨b, t, none⟩) (World.block_lt_of_cell? _ _ h)]; exact h
    exact ⟨key _ _ _ c1, key _ _ _ i1, key _ _ _ i5, key _ _ _ i6, key _ _ _ r1, fun t u h => key _ _ _ (qa t u h), fun t h => key _ _ _ (az t h)⟩
  have HL : Hid (C < w.heap.size ∧ x < w.heap.size ∧ R < w.heap.size) := ⟨World.block_lt_of_cell? _ _ c1, World.block_lt_of_cell? _ _ i1, World.block_lt_of_cell? _ _ r1⟩
  have HA : Hid (∀ t, t < al → gs t < m) := ha
  have HVL : Hid (vs.length = al) := hvl
  have mk : ∀ W, (Instr.makeSlice 107 (.int .i64 al) (.int .i64 al)).run Tryz.prog W = .ok (.slice (some ⟨W.heap.size, 0, none⟩) al al) (W.alloc (.cells (Array.replicate al (.int .i64 0)) 2)) := fun W => by have := mkI al W hal; simpa using this
  clear hop hlk h3 c1 qa az i1 i5 i6 r1 ha hvl hn
  go_enter Tryz.func101, Tryz.ntmps101
  go_wp2_with fail
  refine hI.out.mono ?_
  rintro e w1 ⟨rfl, n9, hw1⟩
  have HB1 : Hid (Below w.heap.size w w1) := by show Below _ _ _; rw [hw1]; exact below_drewN (Below.refl _ _) n9
  have HS1 : Hid (w1.heap.size = w.heap.size) := by show _ = _; rw [hw1]; rfl
  obtain ⟨k1, k2, k3, k4, k5, k6, k7⟩ := HF.out w1 HB1.out
  obtain ⟨a1, a2, a3, a4, a5, a6, a7⟩ := HF.out (w1.alloc (.cells (Array.replicate al (.int .i64 0)) 2)) (HB1.out.alloc HB1.out.size _)
  clear hw1 k6 k7 a6 a7
  go_wp2
  go_loopw [21] (fun i wx => ∃ t : Nat, t ≤ al ∧ i = .int .i64 t ∧ ArgI w w1.heap.size al t vs wx) (fun i _ => al - (intOf i).toNat)
  case atStart =>
    exact ⟨0, Nat.zero_le _, rfl, HB1.out.alloc HB1.out.size _, List.replicate al (.int .i64 0), by unfold Bk; simpa using (Go.MapKept.heap_alloc w1 (.cells (Array.replicate al (.int .i64 0)) 2)).1, by simp, fun s u h => absurd h (Nat.not_lt_zero _)⟩
  case round =>
    obtain ⟨t, ht, rfl, hbel, cs, hbk, hcl, hcs⟩ := hrel
    have HBx : Hid (Below w.heap.size w wr) := hbel
    have HCx : Hid (Bk wr w1.heap.size 2 cs ∧ cs.length = al ∧ ∀ s u, s < t → vs[s]? = some u → cs[s]? = some (.int .i64 u)) := ⟨hbk, hcl, hcs⟩
    obtain ⟨b1, b2, b3, b4, b5, b6, b7⟩ := HF.out wr hbel
    clear hbel hbk hcl hcs a1 a2 a3 a4 a5 k1 k2 k3 k4 k5
    by_cases hlt : t < al
    · obtain ⟨u, hu⟩ : ∃ u, vs[t]? = some u := ⟨_, List.getElem?_eq_getElem (by have := HVL.out; omega)⟩
      have HU : Hid (vs[t]? = some u) := hu
      have q1 := b6 t u hu
      have q2 := b7 t hlt
      have q3 : (gs t : Int) < m := by have := HA.out t hlt; omega
      have q4 : gs t < m := HA.out t hlt
      have hlt' : (t : Int) < al := by omega
      obtain ⟨c9, hc9⟩ : ∃ v, cs[t]? = some v := ⟨_, List.getElem?_eq_getElem (by have := HCx.out.2.1; omega)⟩
      have x1 := HCx.out.1.cell hc9
      have x2 := HCx.out.1.fz t
      have e1 : IntKind.i64.wrap ((t : Int) + 1) = (t : Int) + 1 := wrapI _ (by omega) (by omega)
      clear hu b6 b7 hc9
      go_wp2
      go_round
      case rel =>
        refine ⟨t + 1, by omega, by go_num, below_grown (Nat.le_refl _) HBx.out (grown_set wr w1.heap.size t _) (fun k e => by cases e; exact Nat.le_of_eq HS1.out.symm), _, HCx.out.1.set t _, by simpa using HCx.out.2.1, fun s v hs hv => ?_⟩
        by_cases he : t = s
        · subst he
          rw [HU.out] at hv
          cases hv
          rw [List.getElem?_set_self (by have := HCx.out.2.1; omega)]
        · rw [List.getElem?_set_ne he]
          exact HCx.out.2.2 s v (by omega) hv
      case measure => simp [intOf]; omega
    · obtain rfl : al = t := by omega
      have HFin : Hid (Bk wr w.heap.size 2 (vs.map fun u => .int .i64 u)) := by
        have h := args_all HVL.out HCx.out.2.1 HCx.out.2.2
        show Bk _ _ _ _
        rw [← h, ← HS1.out]
        exact HCx.out.1
      have hlt' : ¬ (al : Int) < al := by omega
      have l1 := HLk.out wr HBx.out
      have l2 := HLk.out wr.drew HBx.out.drew
      have HOp2 : Hid (∀ W, W = wr ∨ W = wr.drew → Calls Tryz.prog 68 #[.pointer (some ⟨R, 0, none⟩), .int .i64 k, .slice (some ⟨w1.heap.size, 0, none⟩) al al, .int .i64 d] W fun e w' => e = .returned (.tuple #[]) ∧ Q w') := fun W hW => by
        rw [HS1.out]
        rcases hW with rfl | rfl
        · exact HOp.out _ HBx.out HFin.out
        · exact HOp.out _ HBx.out.drew HFin.out.drew
      clear b6 b7 b4 b1
      go_wp2
      go_region_with (first | (go_at_call 68; refine (HOp2.out _ (by first | exact .inr rfl | exact .inl rfl)).mono ?_; rintro e w5 ⟨rfl, hq⟩))
      all_goals (
        go_wp2
        go_returns
        exact ⟨rfl, hq⟩)
end
section
open Go.RowKit Go.Shelf
set_option maxRecDepth 20000
set_option maxHeartbeats 4000000
theorem call_enter0 (R C ca n x o ac k m1 : Nat) (zp : Option Addr) (nm : ByteArray) (d : Int) (Q : World → Prop) (w : World) (h3 : w.cell? ⟨R, 3, none⟩ = some (.slice (some ⟨C, 0, none⟩) (n + 1) ca)) (hn : n < 1000000) (i1 : w.cell? ⟨x, o + 1, none⟩ = some (.int .i64 d)) (i5 : w.cell? ⟨x, o + 5, none⟩ = some (.string nm)) (i6 : w.cell? ⟨x, o + 6, none⟩ = some (.slice zp 0 ac)) (n1 : (nm.toList == [114, 116, 46, 112, 114, 105, 110, 116]) = false) (n2 : (nm.toList == [114, 116, 46, 114, 101, 97, 100]) = false) (n3 : (nm.toList == [114, 116, 46, 97, 108, 108, 111, 99]) = false) (n4 : (nm.toList == [114, 116, 46, 102, 114, 101, 101]) = false) (r1 : w.cell? ⟨R, 1, none⟩ = some (.map (some m1))) (hlk : ∀ W, Below w.heap.size w W → (Instr.lookup 58 (.map (some m1)) (.string nm) false).run Tryz.prog W = .ok (.int .i64 k) W) (hop : ∀ W, Below w.heap.size w W → Bk W w.heap.size 2 [] → Calls Tryz.prog 68 #[.pointer (some ⟨R, 0, none⟩), .int .i64 k, .slice (some ⟨w.heap.size, 0, none⟩) 0 0, .int .i64 d] W fun e w' => e = .returned (.tuple #[]) ∧ Q w') : Calls Tryz.prog 101 #[.pointer (some ⟨R, 0, none⟩), .pointer (some ⟨x, o, none⟩)] w fun e w' => e = .returned (.tuple #[]) ∧ Q w' := by
  have hI : Hid (Calls Tryz.prog 98 #[.pointer (some ⟨R, 0, none⟩)] w fun e w' => e = .returned (.pointer (some ⟨C, n * 7, none⟩)) ∧ ∃ k, w' = w.drewN k) := innermost41g R C ca n w h3 hn
  have HOp : Hid (∀ W, Below w.heap.size w W → Bk W w.heap.size 2 [] → Calls Tryz.prog 68 #[.pointer (some ⟨R, 0, none⟩), .int .i64 k, .slice (some ⟨w.heap.size, 0, none⟩) 0 0, .int .i64 d] W fun e w' => e = .returned (.tuple #[]) ∧ Q w') := hop
  have HLk : Hid (∀ W, Below w.heap.size w W → (Instr.lookup 58 (.map (some m1)) (.string nm) false).run Tryz.prog W = .ok (.int .i64 k) W) := hlk
  have HF : Hid (∀ W, Below w.heap.size w W → W.cell? ⟨x, o + 1, none⟩ = some (.int .i64 d) ∧ W.cell? ⟨x, o + 5, none⟩ = some (.string nm) ∧ W.cell? ⟨x, o + 6, none⟩ = some (.slice zp 0 ac) ∧ W.cell? ⟨R, 1, none⟩ = some (.map (some m1))) := fun W hW => by
    have key : ∀ b t v, w.cell? ⟨b, t, none⟩ = some v → W.cell? ⟨b, t, none⟩ = some v := fun b t v h => by rw [hW.cell (p := ⟨b, t, none⟩) (World.block_lt_of_cell? _ _ h)]; exact h
    exact ⟨key _ _ _ i1, key _ _ _ i5, key _ _ _ i6, key _ _ _ r1⟩
  clear hop hlk h3 i1 i5 i6 r1 hn
  go_enter Tryz.func101, Tryz.ntmps101
  go_wp2_with fail
  refine hI.out.mono ?_
  rintro e w1 ⟨rfl, n9, hw1⟩
  have HB1 : Hid (Below w.heap.size w w1) := by show Below _ _ _; rw [hw1]; exact below_drewN (Below.refl _ _) n9
  have HS1 : Hid (w1.heap.size = w.heap.size) := by show _ = _; rw [hw1]; rfl
  have HBa : Hid (Below w.heap.size w (w1.alloc (.cells #[] 2))) := HB1.out.alloc HB1.out.size _
  obtain ⟨k1, k2, k3, k4⟩ := HF.out w1 HB1.out
  obtain ⟨a1, a2, a3, a4⟩ := HF.out (w1.alloc (.cells #[] 2)) HBa.out
  have mk := make0 w1
  have l1 := HLk.out (w1.alloc (.cells #[] 2)) HBa.out
  have l2 := HLk.out (w1.alloc (.cells #[] 2)).drew HBa.out.drew
  have hFin : Bk (w1.alloc (.cells #[] 2)) w.heap.size 2 [] := by
    rw [← HS1.out]
    exact Bk.new w1 [] 2
  have HOp2 : Hid (∀ W, W = w1.alloc (.cells #[] 2) ∨ W = (w1.alloc (.cells #[] 2)).drew → Calls Tryz.prog 68 #[.pointer (some ⟨R, 0, none⟩), .int .i64 k, .slice (some ⟨w1.heap.size, 0, none⟩) 0 0, .int .i64 d] W fun e w' => e = .returned (.tuple #[]) ∧ Q w') := fun W hW => by
    rw [HS1.out]
    rcases hW with rfl | rfl
    · exact HOp.out _ HBa.out hFin
    · exact HOp.out _ HBa.out.drew hFin.drew
  clear hw1 hFin
  go_wp2
  refine wp_loop_rounds 1 ?_
  rw [rounds_succ]
  go_wp2
  go_region_with (first | (go_at_call 68; refine (HOp2.out _ (by first | exact .inr rfl | exact .inl rfl)).mono ?_; rintro e w5 ⟨rfl, hq⟩))
  all_goals (
    go_wp2
    go_returns
    exact ⟨rfl, hq⟩)
end
section
open Go.RowKit Go.Shelf
theorem size2 : (Tryz.prog.info? 2).map (·.size) = some 1 := by kernel_rfl
theorem copy_args (W : World) (h g m al : Nat) (vs : List Value) (hh : Bk W h 2 (List.replicate m (.int .i64 0))) (hg : Bk W g 2 vs) (hl : vs.length = al) (ham : al ≤ m) (h1 : ∀ v ∈ vs, v.oneCell' = true) : ∃ V, (Builtin.copy_ #[107, 107] 3 #[.slice (some ⟨h, 0, none⟩) m m, .slice (some ⟨g, 0, none⟩) al al]).run Tryz.prog W = .ok (.int .i64 al) V ∧ Onl (fun b => b = h) W V ∧ Bk V h 2 (vs ++ List.replicate (m - al) (.int .i64 0)) := by
  have hr := run_copy_row Tryz.prog W 107 107 3 2 h 0 m m ⟨g, 0, none⟩ al al (List.replicate m (Value.int .i64 0)).toArray 2 vs Tryz.underlying107 size2 hh (by rw [hl]; exact (Nat.min_eq_left ham).symm) (fun j v hj => by
    have := hg.cell hj
    have e : (⟨g, 0, none⟩ : Addr).add j = ⟨g, j, none⟩ := by unfold Addr.add; split <;> simp_all
    rw [e]
    exact this) (by simp; omega) h1
  have e : (((List.replicate m (Value.int .i64 0)).toArray.toList.take 0 ++ vs ++ (List.replicate m (Value.int .i64 0)).toArray.toList.drop (0 + vs.length))) = vs ++ List.replicate (m - al) (.int .i64 0) := by
    simp [hl]
  rw [e, hl] at hr
  exact ⟨_, hr, (setRow_bk hh _).2, (setRow_bk hh _).1⟩
theorem copy_none (W : World) (h m : Nat) : (Builtin.copy_ #[107, 107] 3 #[.slice (some ⟨h, 0, none⟩) m m, .slice none 0 0]).run Tryz.prog W = .ok (.int .i64 0) W := run_copy_nil Tryz.prog W 107 107 3 2 ⟨h, 0, none⟩ m m Tryz.underlying107 (by rw [size2]; rfl)
end
section
open Go.RowKit Go.Shelf
theorem info79 : (Tryz.prog.info? 138).map (fun i => (i.zero, i.size, i.bytes)) = some (some (.agg #[.slice none 0 0, .slice none 0 0, .int .i64 0, .int .i64 0, .int .i64 0, .int .i64 0, .int .i64 0]), 7, 88) := by kernel_rfl
theorem info79' : ∃ i, Tryz.prog.info? 138 = some i ∧ i.zero = some (.agg #[.slice none 0 0, .slice none 0 0, .int .i64 0, .int .i64 0, .int .i64 0, .int .i64 0, .int .i64 0]) ∧ i.size = 7 ∧ i.bytes = 88 := by
  have h := info79
  cases hi : Tryz.prog.info? 138 with
  | none => rw [hi] at h; cases h
  | some i => rw [hi] at h; simp at h; exact ⟨i, rfl, h⟩
theorem nb1 (V : World) (o1 : Obj) : (V.alloc o1).heap[V.heap.size]? = some o1 := (Go.MapKept.heap_alloc V o1).1
end
section
open Go.RowKit Go.Shelf
set_option maxRecDepth 20000
set_option maxHeartbeats 4000000
/-- What a call's beginning leaves. -/
structure EnP (R B nc np m fr : Nat) (bv : Value) (ans : Int) (r : Rs) (xs px rg : List Value) (w w' : World) : Prop where
  out : ∃ cv pv gw, Onl (fun b => b = R ∨ r.pv.ownBlock = some b ∨ r.cv.ownBlock = some b) w w' ∧ Rb w' R { r with cv := cv, pv := pv, nx := r.nx + 8 * ((fr : Int) + 1) } ∧ w'.ownsRow B 138 7 cv (nc + 1) (xs ++ [bv, .slice (some ⟨w.heap.size + 1, 0, none⟩) m m, .int .i64 r.nx, .int .i64 fr, .int .i64 0, .int .i64 0, .int .i64 ans]) ∧ w'.ownsRow B 174 3 pv (np + 1) (px ++ [.int .i64 1, .int .i64 r.nx, .slice (some ⟨gw, 0, none⟩) fr fr]) ∧ Bk w' (w.heap.size + 1) 2 rg ∧ Bk w' gw 2 (List.replicate fr (.int .i64 0)) ∧ w.heap.size + 2 ≤ gw
theorem enter18g (R B k nc np g o pl pc m fr bl bc : Nat) (ba : Option Addr) (nm : ByteArray) (pa ans na : Int) (av : Value) (r : Rs) (xs px rg : List Value) (w V : World) (hR : Rb w R r) (hpg : r.pg = .slice (some ⟨g, o, none⟩) pl pc) (hk : k < pl) (f0 : w.cell? ⟨g, o + k * 5, none⟩ = some (.string nm)) (f1 : w.cell? ⟨g, o + k * 5 + 1, none⟩ = some (.int .i64 pa)) (f2 : w.cell? ⟨g, o + k * 5 + 2, none⟩ = some (.int .i64 m)) (f3 : w.cell? ⟨g, o + k * 5 + 3, none⟩ = some (.int .i64 fr)) (f4 : w.cell? ⟨g, o + k * 5 + 4, none⟩ = some (.slice ba bl bc)) (hC : w.ownsRow B 138 7 r.cv nc xs) (hP : w.ownsRow B 174 3 r.pv np px) (hB : B ≤ w.heap.size) (hm : m ≤ 4096) (hfr : fr ≤ 4096) (hnc : nc ≤ 1000000) (hnp : np ≤ 1000000) (n0 : 0 ≤ r.nx) (n1 : r.nx ≤ 1099511627776) (hcp : (Builtin.copy_ #[107, 107] 3 #[.slice (some ⟨w.heap.size + 1, 0, none⟩) m m, av]).run Tryz.prog ((w.alloc (.cells #[.string nm, .int .i64 pa, .int .i64 m, .int .i64 fr, .slice ba bl bc] 27)).alloc (.cells (Array.replicate m (.int .i64 0)) 2)) = .ok (.int .i64 na) V) (hV : Onl (fun b => b = w.heap.size + 1) ((w.alloc (.cells #[.string nm, .int .i64 pa, .int .i64 m, .int .i64 fr, .slice ba bl bc] 27)).alloc (.cells (Array.replicate m (.int .i64 0)) 2)) V) (hVq : Bk V (w.heap.size + 1) 2 rg) : Calls Tryz.prog 68 #[.pointer (some ⟨R, 0, none⟩), .int .i64 k, av, .int .i64 ans] w fun e w' => e = .returned (.tuple #[]) ∧ EnP R B nc np m fr (.slice ba bl bc) ans r xs px rg w w' := by
  have r0 : w.cell? ⟨R, 0, none⟩ = some (.slice (some ⟨g, o, none⟩) pl pc) := hpg ▸ hR.cell (j := 0) rfl
  have hk' : (k : Int) < pl := by omega
  have hk0 : ¬ ((k : Int) < 0) := by omega
  have mk : ∀ W, (Instr.makeSlice 107 (.int .i64 m) (.int .i64 m)).run Tryz.prog W = .ok (.slice (some ⟨W.heap.size, 0, none⟩) m m) (W.alloc (.cells (Array.replicate m (.int .i64 0)) 2)) := fun W => by have := mkI m W hm; simpa using this
  obtain ⟨i9, AN0⟩ := info79'
  have AN : Hid (Tryz.prog.info? 138 = some i9 ∧ i9.zero = some (.agg #[.slice none 0 0, .slice none 0 0, .int .i64 0, .int .i64 0, .int .i64 0, .int .i64 0, .int .i64 0]) ∧ i9.size = 7 ∧ i9.bytes = 88) := AN0
  have hW0 : Below w.heap.size w ((w.alloc (.cells #[.string nm, .int .i64 pa, .int .i64 m, .int .i64 fr, .slice ba bl bc] 27)).alloc (.cells (Array.replicate m (.int .i64 0)) 2)) := ((Below.refl _ _).alloc (Nat.le_refl _) _).alloc (by simp) _
  have hs0 : ((w.alloc (.cells #[.string nm, .int .i64 pa, .int .i64 m, .int .i64 fr, .slice ba bl bc] 27)).alloc (.cells (Array.replicate m (.int .i64 0)) 2)).heap.size = w.heap.size + 2 := by simp
  have hRl := hR.lt
  have hsV : V.heap.size ≥ w.heap.size + 2 := by have := hV.size; omega
  -- everything of w stays in V
  have hWV : Below w.heap.size w V := Onl.below (Nat.le_refl _) hW0 hV (fun b e => by omega)
  have HX : Hid (Bk V w.heap.size 27 [.string nm, .int .i64 pa, .int .i64 m, .int .i64 fr, .slice ba bl bc]) := ((Bk.new w [.string nm, .int .i64 pa, .int .i64 m, .int .i64 fr, .slice ba bl bc] 27).alloc _).onl hV (by omega)
  have HRV : Hid (Rb V R r) := hR.below hWV
  have HCV : Hid (V.ownsRow B 138 7 r.cv nc xs) := own_keep hC (fun b hb => hWV.block b (own_lt hC hb))
  have HPV : Hid (V.ownsRow B 174 3 r.pv np px) := own_keep hP (fun b hb => hWV.block b (own_lt hP hb))
  have HQV : Hid (Bk V (w.heap.size + 1) 2 rg) := hVq
  have HOV : Hid (Onl (fun b => b = R ∨ r.pv.ownBlock = some b ∨ r.cv.ownBlock = some b) w V) := Onl.of_below hWV
  have HN : Hid (B ≤ w.heap.size ∧ fr ≤ 4096 ∧ nc ≤ 1000000 ∧ np ≤ 1000000 ∧ 0 ≤ r.nx ∧ r.nx ≤ 1099511627776 ∧ R < w.heap.size ∧ w.heap.size + 2 ≤ V.heap.size) := ⟨hB, hfr, hnc, hnp, n0, n1, hRl, hsV⟩
  have HNE : Hid (r.cv.ownBlock ≠ some R ∧ r.pv.ownBlock ≠ some R ∧ (∀ b, r.cv.ownBlock = some b → r.pv.ownBlock ≠ some b) ∧ (∀ b, r.cv.ownBlock = some b → b < w.heap.size) ∧ (∀ b, r.pv.ownBlock = some b → b < w.heap.size)) := ⟨own_ne hC hR (by decide), own_ne hP hR (by decide), fun b hb => by obtain ⟨_, cur, hc⟩ := own_block hC hb; exact own_ne hP hc (by decide), fun b hb => own_lt hC hb, fun b hb => own_lt hP hb⟩
  have HBg : Hid (∀ W, Below V.heap.size V W → Calls Tryz.prog 97 #[.pointer (some ⟨R, 4, none⟩), .int .i64 1, .int .i64 fr] W fun e w' => e = .returned (.int .i64 r.nx) ∧ ∃ gw pv, Onl (fun b => b = R ∨ r.pv.ownBlock = some b) V w' ∧ Rb w' R { r with pv := pv, nx := r.nx + 8 * ((fr : Int) + 1) } ∧ w'.ownsRow B 174 3 pv (np + 1) (px ++ [.int .i64 1, .int .i64 r.nx, .slice (some ⟨gw, 0, none⟩) fr fr]) ∧ Bk w' gw 2 (List.replicate fr (.int .i64 0)) ∧ V.heap.size ≤ gw) := fun W hW => (begin40g R B np fr 1 r px W (HRV.out.below hW) (own_keep HPV.out (fun b hb => hW.block b (own_lt HPV.out hb))) (by have := hW.size; omega) hfr hnp n0 n1).mono fun e w' ⟨h1, gw, pv, h2, h3, h4, h5, h6⟩ => ⟨h1, gw, pv, (Onl.of_below hW).trans h2, h3, h4, h5, Nat.le_trans hW.size h6⟩
  clear hR hpg hC hP hB hm hfr hnc hnp n0 n1 hV hVq hWV hW0 hs0 hsV hRl AN0 hk
  go_enter Tryz.func68, Tryz.ntmps68
  go_wp2
  have x3 := HX.out.cell (j := 3) rfl
  clear r0 f0 f1 f2 f3 f4 mk hcp hk' hk0
  go_region_with (first | (go_at_call 97; refine (HBg.out _ (by first | exact (Below.refl _ _).drew | exact (Below.refl _ _))).mono ?_; rintro e w2 ⟨rfl, gw, pv, ho, hr, hp, hq, hge⟩; have HO2 : Hid (Onl (fun b => b = R ∨ r.pv.ownBlock = some b) V w2) := ho; have HR2 : Hid (Rb w2 R { r with pv := pv, nx := r.nx + 8 * ((fr : Int) + 1) }) := hr; have HP2 : Hid (w2.ownsRow B 174 3 pv (np + 1) (px ++ [.int .i64 1, .int .i64 r.nx, .slice (some ⟨gw, 0, none⟩) fr fr]) ∧ Bk w2 gw 2 (List.replicate fr (.int .i64 0)) ∧ V.heap.size ≤ gw) := ⟨hp, hq, hge⟩; clear ho hr hp hq hge))
  all_goals (
    have hlt := HN.out.2.2.2.2.2.2.1
    have hX2 : Bk w2 w.heap.size 27 [.string nm, .int .i64 pa, .int .i64 m, .int .i64 fr, .slice ba bl bc] := HX.out.onl HO2.out (fun e => by rcases e with e | e; omega; (have := HNE.out.2.2.2.2 _ e; omega))
    have HQ2 : Hid (Bk w2 (w.heap.size + 1) 2 rg) := HQV.out.onl HO2.out (fun e => by rcases e with e | e; omega; (have := HNE.out.2.2.2.2 _ e; omega))
    have HC2 : Hid (w2.ownsRow B 138 7 r.cv nc xs) := own_onl HCV.out HO2.out (fun b hb e => by rcases e with e | e; (subst e; exact HNE.out.1 hb); exact HNE.out.2.2.1 b hb e)
    have HS2 : Hid (V.heap.size ≤ w2.heap.size) := HO2.out.size
    have u3 := HR2.out.cell (j := 3) rfl
    have u3' := HR2.out.fz 3
    have u3a := acell HR2.out.lt u3
    have u3b := acell (W := w2.drew) HR2.out.lt u3
    have y4 := hX2.cell (j := 4) rfl
    have y3 := hX2.cell (j := 3) rfl
    clear hX2 hlt
    go_wp2
    go_region_law
      (first | (refine step_append_lies _ rfl (.tmp 34) (.tmp 43) 97 rfl B 138 i9 (.agg #[.slice none 0 0, .slice none 0 0, .int .i64 0, .int .i64 0, .int .i64 0, .int .i64 0, .int .i64 0]) 7 88 Tryz.underlying97 AN.out.1 AN.out.2.1 AN.out.2.2.1 AN.out.2.2.2 rfl (by decide) r.cv nc xs rfl (by first | exact own_keep HC2.out (fun b hb => ((Below.refl w2.heap.size w2).alloc (Nat.le_refl _) _).block b (own_lt HC2.out hb)) | exact own_keep HC2.out (fun b hb => ((Below.refl w2.heap.size w2).drew.alloc (Nat.le_refl _) _).block b (own_lt HC2.out hb))) ⟨w2.heap.size, 0, none⟩ 1 1 [.slice ba bl bc, .slice (some ⟨w.heap.size + 1, 0, none⟩) m m, .int .i64 r.nx, .int .i64 fr, .int .i64 0, .int .i64 0, .int .i64 ans] rfl rfl (World.news_of_block (cs := ([.slice ba bl bc, .slice (some ⟨w.heap.size + 1, 0, none⟩) m m, .int .i64 r.nx, .int .i64 fr, .int .i64 0, .int .i64 0, .int .i64 ans]).toArray) (t := 138) (fr := (0, 0)) (by first | exact nb1 w2 _ | exact nb1 w2.drew _)) (by intro u hu; simp at hu; rcases hu with rfl | rfl | rfl | rfl | rfl | rfl <;> rfl) (by decide) (by unfold maxLen; have := HN.out.2.2.1; omega) (by have := HN.out.2.2.1; omega) (by have := HN.out.1; have := HN.out.2.2.2.2.2.2.2; have := HS2.out; simp; omega) _ rfl ?_; intro gc cap w3 hown hgrow hat hl3; have HZ : Hid (Onl (fun b => r.cv.ownBlock = some b) w2 w3 ∧ w3.ownsRow B 138 7 (.slice (some ⟨gc, 0, none⟩) (nc + 1) cap) (nc + 1) (xs ++ [.slice ba bl bc, .slice (some ⟨w.heap.size + 1, 0, none⟩) m m, .int .i64 r.nx, .int .i64 fr, .int .i64 0, .int .i64 0, .int .i64 ans]) ∧ gc ≠ R) := (by refine ⟨?_, hown, ?_⟩; (first | exact ((Onl.of_below (Below.refl _ w2)).alloc _).trans (onl_grown hgrow) | exact ((Onl.of_below (Below.refl _ w2).drew).alloc _).trans (onl_grown hgrow)); (intro e; subst e; rcases hat with h | h; exact HNE.out.1 h; (have := HR2.out.lt; simp at h; omega))); have t3 := (HR2.out.onl HZ.out.1 HNE.out.1).cell (j := 3) rfl; have t3' := (HR2.out.onl HZ.out.1 HNE.out.1).fz 3; clear hown hgrow hat))
    all_goals (
      go_wp2
      go_returns
      obtain ⟨z1, z2, z3⟩ := HZ.out
      obtain ⟨p1, p2, p3⟩ := HP2.out
      have hRl := HN.out.2.2.2.2.2.2.1
      have hVs := HN.out.2.2.2.2.2.2.2
      refine ⟨rfl, ⟨?_⟩⟩
      refine ⟨.slice (some ⟨gc, 0, none⟩) (nc + 1) cap, pv, gw, ?_, ?_, ?_, ?_, ?_, ?_, ?_⟩
      · exact ((HOV.out.trans (HO2.out.mono fun b h => h.imp id .inl)).trans (z1.mono fun b h => .inr (.inr h))).set (S := fun b => b = R ∨ r.pv.ownBlock = some b ∨ r.cv.ownBlock = some b) (b := R) (.inl rfl)
      · exact (HR2.out.onl z1 HNE.out.1).set 3 (.slice (some ⟨gc, 0, none⟩) (nc + 1) cap)
      · exact own_set z2 (fun e => z3 (by cases e; rfl))
      · refine own_set (own_onl p1 z1 (fun b hb e => ?_)) (own_ne p1 HR2.out (by decide))
        obtain ⟨_, cur, hc⟩ := own_block HC2.out e
        exact own_ne p1 hc (by decide) hb
      · exact (HQ2.out.onl z1 (fun e => by have := HNE.out.2.2.2.1 _ e; omega)).other (by omega)
      · exact (p2.onl z1 (fun e => by have := HNE.out.2.2.2.1 _ e; omega)).other (by omega)
      · omega))
end
end Go.Proofs.YtdppoblbenbafaaGreatDoor
