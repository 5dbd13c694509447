/- The document's own calls: the runtime's, no answer wanted. The document's own calls: the runtime's, with an answer. One step of the document's: loads, stores, calls of the runtime. -/
import Derived.Test.YtdppoblbenbafaaGreatDoorYBD
import Derived.Test.YtdppoblbenbafaaGreatDoorYBM
import Derived.Deep.RegionHeld3
import Derived.Deep.AppendLies
import Derived.Test.YtdppoblbenbafaaGreatDoorYBH
namespace Go.Proofs.YtdppoblbenbafaaGreatDoor
section
open Go.RowKit Go.Shelf
set_option maxRecDepth 20000
set_option maxHeartbeats 4000000
/-- What a call's instruction has gathered when it comes to its name. -/
structure GatQ (W0 : World) (vs : List Int) (av : Value) (W : World) : Prop where
  bel : Below W0.heap.size W0 W
  own : W.ownsRow W0.heap.size 2 1 av vs.length (vs.map (Value.int .i64))
theorem GatQ.drew {W0 : World} {vs : List Int} {av : Value} {W : World} (h : GatQ W0 vs av W) : GatQ W0 vs av W.drew := ⟨h.bel.drew, own_keep h.own fun g hg => (Below.refl W.heap.size W).drew.block g (own_lt h.own hg)⟩
theorem rcalls_no (R C o q : Nat) (rg vs : List Int) (i : Ins) (w : World) (hQ : RegQ C o q rg w) (hA : ArA w i.ar i.ac i.gs) (hg : i.gs.length ≤ 7) (hvl : vs.length = i.gs.length) (hvs : ∀ (j : Nat) (g v : Int), i.gs[j]? = some g → vs[j]? = some v → ∃ n : Nat, g = (n : Int) ∧ rg[n]? = some v) (hbl : 0 ≤ blN i.nm.toList) {S : Int → World → Prop} (hrt : ∀ av W, GatQ w vs av W → Calls Tryz.prog 139 #[.pointer (some ⟨R, 0, none⟩), .string i.nm, av] W fun e w' => ∃ x, e = .returned (.int .i64 x) ∧ Onl (fun b => b < w.heap.size) W w' ∧ S x w') {T : World → Prop} (hd : i.d < 0) (ht : ∀ x w', S x w' → T w') : Calls Tryz.prog 105 #[.pointer (some ⟨R, 0, none⟩), .pointer (some ⟨C, o, none⟩), inV i] w fun e w' => e = .returned (.tuple #[]) ∧ T w' := by
  have HQ : Hid (RegQ C o q rg w) := hQ
  have HA : Hid (ArA w i.ar i.ac i.gs) := hA
  have HV : Hid (vs.length = i.gs.length ∧ i.gs.length ≤ 7) := ⟨hvl, hg⟩
  have HVs : Hid (∀ (j : Nat) (g v : Int), i.gs[j]? = some g → vs[j]? = some v → ∃ n : Nat, g = (n : Int) ∧ rg[n]? = some v) := hvs
  obtain ⟨i2, AN0⟩ := info2'
  have AN : Hid (Tryz.prog.info? 2 = some i2 ∧ i2.zero = some (.int .i64 0) ∧ i2.size = 1 ∧ i2.bytes = 8) := AN0
  have HB : Hid (∀ W, Calls Tryz.prog 67 #[.string i.nm] W fun e w' => e = .returned (.int .i64 (blN i.nm.toList)) ∧ w' = W) := fun W => rbuilt67 i.nm W
  have lC : C < w.heap.size := World.block_lt_of_cell? _ _ hQ.c1
  have HRT : Hid (∀ av W, GatQ w vs av W → Calls Tryz.prog 139 #[.pointer (some ⟨R, 0, none⟩), .string i.nm, av] W fun e w' => ∃ x, e = .returned (.int .i64 x) ∧ Onl (fun b => b < w.heap.size) W w' ∧ S x w') := hrt
  have hbn : ¬ blN i.nm.toList < 0 := by omega
  have HT : Hid (∀ x w', S x w' → T w') := ht
  have hd' : ¬ 0 ≤ i.d := by omega
  have HV0 : Hid ((∀ (t : Nat) (y : Value), ([.int .i64 i.op, .int .i64 i.d, .int .i64 i.a, .int .i64 i.b, .int .i64 i.n, .string i.nm, .slice i.ar i.gs.length i.ac, .int .i64 i.to, .int .i64 i.el] : List Value)[t]? = some y → (w.alloc (.cells #[.int .i64 i.op, .int .i64 i.d, .int .i64 i.a, .int .i64 i.b, .int .i64 i.n, .string i.nm, .slice i.ar i.gs.length i.ac, .int .i64 i.to, .int .i64 i.el] 54)).cell? ⟨w.heap.size, t, none⟩ = some y) ∧ w.heap.size < (w.alloc (.cells #[.int .i64 i.op, .int .i64 i.d, .int .i64 i.a, .int .i64 i.b, .int .i64 i.n, .string i.nm, .slice i.ar i.gs.length i.ac, .int .i64 i.to, .int .i64 i.el] 54)).heap.size ∧ Below w.heap.size w (w.alloc (.cells #[.int .i64 i.op, .int .i64 i.d, .int .i64 i.a, .int .i64 i.b, .int .i64 i.n, .string i.nm, .slice i.ar i.gs.length i.ac, .int .i64 i.to, .int .i64 i.el] 54))) := ⟨fun t y ht => (Bk.new w [.int .i64 i.op, .int .i64 i.d, .int .i64 i.a, .int .i64 i.b, .int .i64 i.n, .string i.nm, .slice i.ar i.gs.length i.ac, .int .i64 i.to, .int .i64 i.el] 54).cell ht, by simp, (Below.refl w.heap.size w).alloc (Nat.le_refl _) _⟩
  unfold inV
  clear hQ hA hg hvl hvs AN0 hbl hrt ht hd
  obtain ⟨n, hn⟩ : ∃ n, n = i.gs.length := ⟨_, rfl⟩
  have HN : Hid (n = i.gs.length) := hn
  rw [← hn] at HV0 ⊢
  clear hn
  go_enter Tryz.func105, Tryz.ntmps105
  go_wp2
  generalize hV : w.alloc (.cells #[.int .i64 i.op, .int .i64 i.d, .int .i64 i.a, .int .i64 i.b, .int .i64 i.n, .string i.nm, .slice i.ar n i.ac, .int .i64 i.to, .int .i64 i.el] 54) = V at *
  clear hV
  have HNil : Hid (V.ownsRow V.heap.size 2 1 (.slice none 0 0) 0 ([] : List Value)) := World.ownsRow_nil _ _ _ _
  go_loopw [6, 7] (fun v u wx => ∃ k : Nat, k ≤ n ∧ u = .int .i64 (k : Nat) ∧ wx.ownsRow V.heap.size 2 1 v k ((vs.take k).map (Value.int .i64)) ∧ Below V.heap.size V wx) (fun _ u _ => n - (intOf u).toNat)
  case atStart => exact ⟨0, Nat.zero_le _, rfl, HNil.out, Below.refl _ _⟩
  case round =>
    obtain ⟨k, hk, rfl, ho, hb⟩ := hrel
    have HO : Hid (wr.ownsRow V.heap.size 2 1 u6 k ((vs.take k).map (Value.int .i64))) := ho
    have HBr : Hid (Below V.heap.size V wr) := hb
    have HBw : Hid (Below w.heap.size w wr) := HV0.out.2.2.trans (hb.mono HV0.out.2.2.size)
    have b5 := (World.cell?_of_block (hb.block w.heap.size HV0.out.2.1)).trans (HV0.out.1 5 _ rfl)
    have b6 := (World.cell?_of_block (hb.block w.heap.size HV0.out.2.1)).trans (HV0.out.1 6 _ rfl)
    have b1 := (World.cell?_of_block (hb.block w.heap.size HV0.out.2.1)).trans (HV0.out.1 1 _ rfl)
    have lb : w.heap.size < wr.heap.size := Nat.lt_of_lt_of_le HV0.out.2.1 hb.size
    clear ho hb
    by_cases hkn : k < n
    · obtain ⟨g, hgk⟩ : ∃ g, i.gs[k]? = some g := ⟨_, List.getElem?_eq_getElem (by have := HN.out; omega)⟩
      obtain ⟨v, hvk⟩ : ∃ v, vs[k]? = some v := ⟨_, List.getElem?_eq_getElem (by have := HN.out; have := HV.out.1; omega)⟩
      obtain ⟨gn, rfl, hrg⟩ := HVs.out k g v hgk hvk
      obtain ⟨ga, oa, har, hac⟩ := HA.out.2.2 (by have := HN.out; omega)
      have a1 := hac k _ hgk
      have lga : ga < w.heap.size := World.block_lt_of_cell? _ _ a1
      obtain ⟨r1, r2, lq, _⟩ := HQ.out.at hrg
      have HKS : Hid (∀ W, Below V.heap.size V W → W.cell? ⟨C, o + 1, none⟩ = some (.slice (some ⟨q, 0, none⟩) rg.length rg.length) ∧ W.cell? ⟨w.heap.size, 6, none⟩ = some (.slice (some ⟨ga, oa, none⟩) n i.ac) ∧ W.cell? ⟨ga, oa + k, none⟩ = some (.int .i64 gn) ∧ W.cell? ⟨q, gn, none⟩ = some (.int .i64 v)) := fun W hW => by
        have hw : Below w.heap.size w W := HV0.out.2.2.trans (hW.mono HV0.out.2.2.size)
        have h6 := (World.cell?_of_block (hW.block w.heap.size HV0.out.2.1)).trans (HV0.out.1 6 _ rfl)
        rw [har] at h6
        exact ⟨(World.cell?_of_block (hw.block C lC)).trans HQ.out.c1, h6, (World.cell?_of_block (hw.block ga lga)).trans a1, (World.cell?_of_block (hw.block q lq)).trans r1⟩
      have HVk : Hid ((vs.take (k + 1)).map (Value.int .i64) = (vs.take k).map (Value.int .i64) ++ [.int .i64 v]) := by
        show _ = _
        rw [List.take_add_one, hvk]
        simp
      have hkI : (k : Int) < n := by omega
      have HK7 : Hid (k < 7) := by have := HN.out; have := HV.out.2; show k < 7; omega
      have e0 : IntKind.i64.wrap ((k : Int) + 1) = (k : Int) + 1 := wrapI _ (by have := HK7.out; omega) (by have := HK7.out; omega)
      have HTw : Hid (∀ W : World, (W.alloc (.cells #[.int .i64 v] 2)).cell? ⟨W.heap.size, 0, none⟩ = some (.int .i64 v)) := fun W => by go_simp
      rw [har] at b6
      clear hgk hvk hrg hac a1 r1 b5 b1 har
      generalize rg.length = rl at *
      go_wp2
      go_region_held3 (fun W => W.cell? ⟨C, o + 1, none⟩ = some (.slice (some ⟨q, 0, none⟩) rl rl) ∧ W.cell? ⟨w.heap.size, 6, none⟩ = some (.slice (some ⟨ga, oa, none⟩) n i.ac) ∧ W.cell? ⟨ga, oa + k, none⟩ = some (.int .i64 gn) ∧ W.cell? ⟨q, gn, none⟩ = some (.int .i64 v)) (first | exact HKS.out _ HBr.out.drew | exact HKS.out _ (HBr.out.alloc HBr.out.size _) | exact HKS.out _ (HBr.out.drew.alloc HBr.out.drew.size _) | exact HKS.out _ (HBr.out.alloc HBr.out.size _).drew | exact HKS.out _ HB3.out.2) (first | (refine step_append_lies _ rfl (.tmp 16) (.tmp 28) 107 rfl V.heap.size 2 i2 (.int .i64 0) 1 8 Tryz.underlying107 AN.out.1 AN.out.2.1 AN.out.2.2.1 AN.out.2.2.2 rfl (by decide) u6 k ((vs.take k).map (Value.int .i64)) rfl (by first | exact own_keep HO.out (fun b hb => ((Below.refl wr.heap.size wr).alloc (Nat.le_refl _) _).block b (own_lt HO.out hb)) | exact own_keep HO.out (fun b hb => ((Below.refl wr.heap.size wr).drew.alloc (Nat.le_refl _) _).block b (own_lt HO.out hb))) _ 1 1 [.int .i64 v] rfl rfl (by intro j x hj; match j, hj with | 0, hj => (cases hj; first | exact HTw.out wr | exact HTw.out wr.drew) | j + 1, hj => simp at hj) (by intro x hx; simp at hx; subst hx; rfl) (by decide) (by unfold maxLen; have := HK7.out; omega) (by have := HK7.out; omega) (by have := HBr.out.size; simp; omega) _ rfl ?_; intro g2 cap2 w3 hown hgrow hat hl3; have HB3 : Hid (w3.ownsRow V.heap.size 2 1 (.slice (some ⟨g2, 0, none⟩) (k + 1) cap2) (k + 1) ((vs.take (k + 1)).map (Value.int .i64)) ∧ Below V.heap.size V w3) := ⟨by rw [HVk.out]; exact hown, Onl.below (S := fun b => u6.ownBlock = some b) (Nat.le_refl _) HBr.out (by first | exact ((Onl.of_below (Below.refl _ wr)).alloc _).trans (onl_grown hgrow) | exact ((Onl.of_below (Below.refl _ wr).drew).alloc _).trans (onl_grown hgrow)) (fun b hb => own_base HO.out hb)⟩; clear hown hgrow hat))
      go_wp2
      go_round
      case rel => exact ⟨k + 1, by omega, by simp, HB3.out.1, HB3.out.2⟩
      case measure => simp [intOf] <;> omega
    · obtain rfl : k = n := by omega
      have HG : Hid (GatQ w vs u6 wr) := by
        refine ⟨HBw.out, ?_⟩
        have := HO.out
        rw [List.take_of_length_le (by have := HN.out; have := HV.out.1; omega)] at this
        rw [HV.out.1, ← HN.out]
        exact own_low this HV0.out.2.2.size
      go_wp2_with (first | (go_at_call 67; refine (HB.out _).mono ?_; rintro e w5 ⟨rfl, h67⟩; rw [h67]; clear h67))
      refine (HRT.out _ _ HG.out).mono ?_
      rintro e w2 ⟨x, rfl, ho2, hs2⟩
      have HO2 : Hid (Onl (fun b => b < w.heap.size) wr w2 ∧ S x w2) := ⟨ho2, hs2⟩
      have d1 := (World.cell?_of_block (ho2.block w.heap.size lb (Nat.lt_irrefl _))).trans b1
      have lb2 : w.heap.size < w2.heap.size := Nat.lt_of_lt_of_le lb ho2.size
      clear ho2 hs2 b1 b5 b6
      go_wp2
      go_returns
      exact ⟨rfl, HT.out _ _ HO2.out.2⟩
end
section
open Go.RowKit Go.Shelf
set_option maxRecDepth 20000
set_option maxHeartbeats 4000000
theorem rcalls_yes (R C o q : Nat) (rg vs : List Int) (i : Ins) (w : World) (hQ : RegQ C o q rg w) (hA : ArA w i.ar i.ac i.gs) (hg : i.gs.length ≤ 7) (hvl : vs.length = i.gs.length) (hvs : ∀ (j : Nat) (g v : Int), i.gs[j]? = some g → vs[j]? = some v → ∃ n : Nat, g = (n : Int) ∧ rg[n]? = some v) (hbl : 0 ≤ blN i.nm.toList) {S : Int → World → Prop} (hrt : ∀ av W, GatQ w vs av W → Calls Tryz.prog 139 #[.pointer (some ⟨R, 0, none⟩), .string i.nm, av] W fun e w' => ∃ x, e = .returned (.int .i64 x) ∧ Onl (fun b => b < w.heap.size) W w' ∧ S x w') {T : World → Prop} (d : Nat) (hd : i.d = (d : Int)) (hdl : d < rg.length) (hy : ∀ x w', S x w' → w'.cell? ⟨C, o + 1, none⟩ = some (.slice (some ⟨q, 0, none⟩) rg.length rg.length) ∧ (∃ u, w'.cell? ⟨q, d, none⟩ = some (.int .i64 u)) ∧ w'.frozen? ⟨q, d, none⟩ = false) (ht : ∀ x w', S x w' → T ((w'.setCell ⟨q, d, none⟩ (.int .i64 x)).drew)) : Calls Tryz.prog 105 #[.pointer (some ⟨R, 0, none⟩), .pointer (some ⟨C, o, none⟩), inV i] w fun e w' => e = .returned (.tuple #[]) ∧ T w' := by
  have HQ : Hid (RegQ C o q rg w) := hQ
  have HA : Hid (ArA w i.ar i.ac i.gs) := hA
  have HV : Hid (vs.length = i.gs.length ∧ i.gs.length ≤ 7) := ⟨hvl, hg⟩
  have HVs : Hid (∀ (j : Nat) (g v : Int), i.gs[j]? = some g → vs[j]? = some v → ∃ n : Nat, g = (n : Int) ∧ rg[n]? = some v) := hvs
  obtain ⟨i2, AN0⟩ := info2'
  have AN : Hid (Tryz.prog.info? 2 = some i2 ∧ i2.zero = some (.int .i64 0) ∧ i2.size = 1 ∧ i2.bytes = 8) := AN0
  have HB : Hid (∀ W, Calls Tryz.prog 67 #[.string i.nm] W fun e w' => e = .returned (.int .i64 (blN i.nm.toList)) ∧ w' = W) := fun W => rbuilt67 i.nm W
  have lC : C < w.heap.size := World.block_lt_of_cell? _ _ hQ.c1
  have HRT : Hid (∀ av W, GatQ w vs av W → Calls Tryz.prog 139 #[.pointer (some ⟨R, 0, none⟩), .string i.nm, av] W fun e w' => ∃ x, e = .returned (.int .i64 x) ∧ Onl (fun b => b < w.heap.size) W w' ∧ S x w') := hrt
  have hbn : ¬ blN i.nm.toList < 0 := by omega
  have HT : Hid (∀ x w', S x w' → T ((w'.setCell ⟨q, d, none⟩ (.int .i64 x)).drew)) := ht
  have HY : Hid (∀ x w', S x w' → w'.cell? ⟨C, o + 1, none⟩ = some (.slice (some ⟨q, 0, none⟩) rg.length rg.length) ∧ (∃ u, w'.cell? ⟨q, d, none⟩ = some (.int .i64 u)) ∧ w'.frozen? ⟨q, d, none⟩ = false) := hy
  have hdI : (d : Int) < rg.length := by omega
  have HV0 : Hid ((∀ (t : Nat) (y : Value), ([.int .i64 i.op, .int .i64 i.d, .int .i64 i.a, .int .i64 i.b, .int .i64 i.n, .string i.nm, .slice i.ar i.gs.length i.ac, .int .i64 i.to, .int .i64 i.el] : List Value)[t]? = some y → (w.alloc (.cells #[.int .i64 i.op, .int .i64 i.d, .int .i64 i.a, .int .i64 i.b, .int .i64 i.n, .string i.nm, .slice i.ar i.gs.length i.ac, .int .i64 i.to, .int .i64 i.el] 54)).cell? ⟨w.heap.size, t, none⟩ = some y) ∧ w.heap.size < (w.alloc (.cells #[.int .i64 i.op, .int .i64 i.d, .int .i64 i.a, .int .i64 i.b, .int .i64 i.n, .string i.nm, .slice i.ar i.gs.length i.ac, .int .i64 i.to, .int .i64 i.el] 54)).heap.size ∧ Below w.heap.size w (w.alloc (.cells #[.int .i64 i.op, .int .i64 i.d, .int .i64 i.a, .int .i64 i.b, .int .i64 i.n, .string i.nm, .slice i.ar i.gs.length i.ac, .int .i64 i.to, .int .i64 i.el] 54))) := ⟨fun t y ht => (Bk.new w [.int .i64 i.op, .int .i64 i.d, .int .i64 i.a, .int .i64 i.b, .int .i64 i.n, .string i.nm, .slice i.ar i.gs.length i.ac, .int .i64 i.to, .int .i64 i.el] 54).cell ht, by simp, (Below.refl w.heap.size w).alloc (Nat.le_refl _) _⟩
  have HD : Hid (i.d = (d : Int)) := hd
  clear hd
  unfold inV
  clear hQ hA hg hvl hvs AN0 hbl hrt ht hdl hy
  obtain ⟨n, hn⟩ : ∃ n, n = i.gs.length := ⟨_, rfl⟩
  have HN : Hid (n = i.gs.length) := hn
  rw [← hn] at HV0 ⊢
  clear hn
  go_enter Tryz.func105, Tryz.ntmps105
  go_wp2
  generalize hV : w.alloc (.cells #[.int .i64 i.op, .int .i64 i.d, .int .i64 i.a, .int .i64 i.b, .int .i64 i.n, .string i.nm, .slice i.ar n i.ac, .int .i64 i.to, .int .i64 i.el] 54) = V at *
  clear hV
  have HNil : Hid (V.ownsRow V.heap.size 2 1 (.slice none 0 0) 0 ([] : List Value)) := World.ownsRow_nil _ _ _ _
  go_loopw [6, 7] (fun v u wx => ∃ k : Nat, k ≤ n ∧ u = .int .i64 (k : Nat) ∧ wx.ownsRow V.heap.size 2 1 v k ((vs.take k).map (Value.int .i64)) ∧ Below V.heap.size V wx) (fun _ u _ => n - (intOf u).toNat)
  case atStart => exact ⟨0, Nat.zero_le _, rfl, HNil.out, Below.refl _ _⟩
  case round =>
    obtain ⟨k, hk, rfl, ho, hb⟩ := hrel
    have HO : Hid (wr.ownsRow V.heap.size 2 1 u6 k ((vs.take k).map (Value.int .i64))) := ho
    have HBr : Hid (Below V.heap.size V wr) := hb
    have HBw : Hid (Below w.heap.size w wr) := HV0.out.2.2.trans (hb.mono HV0.out.2.2.size)
    have b5 := (World.cell?_of_block (hb.block w.heap.size HV0.out.2.1)).trans (HV0.out.1 5 _ rfl)
    have b6 := (World.cell?_of_block (hb.block w.heap.size HV0.out.2.1)).trans (HV0.out.1 6 _ rfl)
    have b1 := (World.cell?_of_block (hb.block w.heap.size HV0.out.2.1)).trans (HV0.out.1 1 _ rfl)
    have lb : w.heap.size < wr.heap.size := Nat.lt_of_lt_of_le HV0.out.2.1 hb.size
    clear ho hb
    by_cases hkn : k < n
    · obtain ⟨g, hgk⟩ : ∃ g, i.gs[k]? = some g := ⟨_, List.getElem?_eq_getElem (by have := HN.out; omega)⟩
      obtain ⟨v, hvk⟩ : ∃ v, vs[k]? = some v := ⟨_, List.getElem?_eq_getElem (by have := HN.out; have := HV.out.1; omega)⟩
      obtain ⟨gn, rfl, hrg⟩ := HVs.out k g v hgk hvk
      obtain ⟨ga, oa, har, hac⟩ := HA.out.2.2 (by have := HN.out; omega)
      have a1 := hac k _ hgk
      have lga : ga < w.heap.size := World.block_lt_of_cell? _ _ a1
      obtain ⟨r1, r2, lq, _⟩ := HQ.out.at hrg
      have HKS : Hid (∀ W, Below V.heap.size V W → W.cell? ⟨C, o + 1, none⟩ = some (.slice (some ⟨q, 0, none⟩) rg.length rg.length) ∧ W.cell? ⟨w.heap.size, 6, none⟩ = some (.slice (some ⟨ga, oa, none⟩) n i.ac) ∧ W.cell? ⟨ga, oa + k, none⟩ = some (.int .i64 gn) ∧ W.cell? ⟨q, gn, none⟩ = some (.int .i64 v)) := fun W hW => by
        have hw : Below w.heap.size w W := HV0.out.2.2.trans (hW.mono HV0.out.2.2.size)
        have h6 := (World.cell?_of_block (hW.block w.heap.size HV0.out.2.1)).trans (HV0.out.1 6 _ rfl)
        rw [har] at h6
        exact ⟨(World.cell?_of_block (hw.block C lC)).trans HQ.out.c1, h6, (World.cell?_of_block (hw.block ga lga)).trans a1, (World.cell?_of_block (hw.block q lq)).trans r1⟩
      have HVk : Hid ((vs.take (k + 1)).map (Value.int .i64) = (vs.take k).map (Value.int .i64) ++ [.int .i64 v]) := by
        show _ = _
        rw [List.take_add_one, hvk]
        simp
      have hkI : (k : Int) < n := by omega
      have HK7 : Hid (k < 7) := by have := HN.out; have := HV.out.2; show k < 7; omega
      have e0 : IntKind.i64.wrap ((k : Int) + 1) = (k : Int) + 1 := wrapI _ (by have := HK7.out; omega) (by have := HK7.out; omega)
      have HTw : Hid (∀ W : World, (W.alloc (.cells #[.int .i64 v] 2)).cell? ⟨W.heap.size, 0, none⟩ = some (.int .i64 v)) := fun W => by go_simp
      rw [har] at b6
      clear hgk hvk hrg hac a1 r1 b5 b1 har
      generalize rg.length = rl at *
      go_wp2
      go_region_held3 (fun W => W.cell? ⟨C, o + 1, none⟩ = some (.slice (some ⟨q, 0, none⟩) rl rl) ∧ W.cell? ⟨w.heap.size, 6, none⟩ = some (.slice (some ⟨ga, oa, none⟩) n i.ac) ∧ W.cell? ⟨ga, oa + k, none⟩ = some (.int .i64 gn) ∧ W.cell? ⟨q, gn, none⟩ = some (.int .i64 v)) (first | exact HKS.out _ HBr.out.drew | exact HKS.out _ (HBr.out.alloc HBr.out.size _) | exact HKS.out _ (HBr.out.drew.alloc HBr.out.drew.size _) | exact HKS.out _ (HBr.out.alloc HBr.out.size _).drew | exact HKS.out _ HB3.out.2) (first | (refine step_append_lies _ rfl (.tmp 16) (.tmp 28) 107 rfl V.heap.size 2 i2 (.int .i64 0) 1 8 Tryz.underlying107 AN.out.1 AN.out.2.1 AN.out.2.2.1 AN.out.2.2.2 rfl (by decide) u6 k ((vs.take k).map (Value.int .i64)) rfl (by first | exact own_keep HO.out (fun b hb => ((Below.refl wr.heap.size wr).alloc (Nat.le_refl _) _).block b (own_lt HO.out hb)) | exact own_keep HO.out (fun b hb => ((Below.refl wr.heap.size wr).drew.alloc (Nat.le_refl _) _).block b (own_lt HO.out hb))) _ 1 1 [.int .i64 v] rfl rfl (by intro j x hj; match j, hj with | 0, hj => (cases hj; first | exact HTw.out wr | exact HTw.out wr.drew) | j + 1, hj => simp at hj) (by intro x hx; simp at hx; subst hx; rfl) (by decide) (by unfold maxLen; have := HK7.out; omega) (by have := HK7.out; omega) (by have := HBr.out.size; simp; omega) _ rfl ?_; intro g2 cap2 w3 hown hgrow hat hl3; have HB3 : Hid (w3.ownsRow V.heap.size 2 1 (.slice (some ⟨g2, 0, none⟩) (k + 1) cap2) (k + 1) ((vs.take (k + 1)).map (Value.int .i64)) ∧ Below V.heap.size V w3) := ⟨by rw [HVk.out]; exact hown, Onl.below (S := fun b => u6.ownBlock = some b) (Nat.le_refl _) HBr.out (by first | exact ((Onl.of_below (Below.refl _ wr)).alloc _).trans (onl_grown hgrow) | exact ((Onl.of_below (Below.refl _ wr).drew).alloc _).trans (onl_grown hgrow)) (fun b hb => own_base HO.out hb)⟩; clear hown hgrow hat))
      go_wp2
      go_round
      case rel => exact ⟨k + 1, by omega, by simp, HB3.out.1, HB3.out.2⟩
      case measure => simp [intOf] <;> omega
    · obtain rfl : k = n := by omega
      have HG : Hid (GatQ w vs u6 wr) := by
        refine ⟨HBw.out, ?_⟩
        have := HO.out
        rw [List.take_of_length_le (by have := HN.out; have := HV.out.1; omega)] at this
        rw [HV.out.1, ← HN.out]
        exact own_low this HV0.out.2.2.size
      go_wp2_with (first | (go_at_call 67; refine (HB.out _).mono ?_; rintro e w5 ⟨rfl, h67⟩; rw [h67]; clear h67))
      refine (HRT.out _ _ HG.out).mono ?_
      rintro e w2 ⟨x, rfl, ho2, hs2⟩
      have HO2 : Hid (Onl (fun b => b < w.heap.size) wr w2 ∧ S x w2) := ⟨ho2, hs2⟩
      have d1 := (World.cell?_of_block (ho2.block w.heap.size lb (Nat.lt_irrefl _))).trans b1
      have lb2 : w.heap.size < w2.heap.size := Nat.lt_of_lt_of_le lb ho2.size
      clear ho2 hs2 b1 b5 b6
      obtain ⟨y1, ⟨y0, y2⟩, y3⟩ := HY.out x w2 HO2.out.2
      rw [HD.out] at d1
      go_wp2
      go_region
      go_wp2
      go_returns
      exact ⟨rfl, HT.out _ _ HO2.out.2⟩
end
section
open Go.RowKit Go.Shelf
variable {p : List Fun} {pp : Option Addr} {pc : Nat} {L : List UInt8} {W0 : World} {R : Nat} {r : Rq} {C ca P pa : Nat} {go : List (Nat × Ob)} {W : World} {s : Rt} {tq : Nat} {lq : List (Nat × (Cal × Nat))} {f : Fun} {bl : Blk} {i : Ins}
theorem wrapQ (z : Int) : wrap64 z = IntKind.i64.wrap z := by
  rw [IntKind.wrap_i64]
  unfold wrap64
  omega
theorem i64_wrapQ (z : Int) : I64 (IntKind.i64.wrap z) := by
  rw [← wrapQ]
  exact i64_wrap z
theorem RelX.woq (h : RelX p pp pc L W0 R r C ca P pa ((tq, s.top) :: lq) go W s) (hgo : go.length ≤ 1000000) (had : ∀ o ∈ s.os, 0 ≤ o.ad) (z : Int) : WoQ R (IntKind.i64.wrap z) (woV s.os (IntKind.i64.wrap z)) W := fun W' hb => by
  have h' := h.below hb
  obtain ⟨_, ps, hP, _⟩ := h'.bP
  have e := h'.os
  refine (rword138 R P go.length pa go (IntKind.i64.wrap z) W' (h'.rb.cell (j := 3) (by rw [← h'.pv]; rfl)) rfl h'.obA hP.lt h'.rb.lt hgo (i64_wrapQ z) (fun x hx => had x.2 (by rw [← e]; exact List.mem_map.2 ⟨x, hx, rfl⟩))).mono ?_
  rintro e' w' ⟨rfl, hb'⟩
  rw [e]
  exact ⟨rfl, hb'⟩
theorem RelX.atO (h : RelX p pp pc L W0 R r C ca P pa ((tq, s.top) :: lq) go W s) {k : Nat} {o : Ob} (hk : s.os[k]? = some o) : ∃ x, go[k]? = some x ∧ x.2 = o := by
  rw [← h.os, List.getElem?_map] at hk
  exact Option.map_eq_some_iff.1 hk
theorem word_in {o : Ob} {t : Int} (h : HasW (toP o) t) : ∃ v, o.ws[((t - o.ad) / 8).toNat]? = some v := by
  have h1 : o.ad ≤ t := h.1
  have h2 : (t - o.ad) / 8 < (o.ws.length : Int) := h.2
  exact ⟨_, List.getElem?_eq_getElem (by omega)⟩
theorem woV_at {l : List Ob} {t : Int} {k m : Nat} (h : woR l t = some (k, m)) : woV l t = .tuple #[.int .i64 (k : Nat), .int .i64 (m : Nat), .bool true] := by
  unfold woV
  rw [h]
theorem woV_no {l : List Ob} {t : Int} (h : woR l t = none) : woV l t = .tuple #[.int .i64 0, .int .i64 0, .bool false] := by
  unfold woV
  rw [h]
section
variable (h : RelX p pp pc L W0 R r C ca P pa ((tq, s.top) :: lq) go W s) (hI : FunA W0 pp pc p) (hF : FnF f) (hc : CalF p s.top.1 f bl i) (hl : bl.l.length ≤ 4096) (hn : lq.length ≤ 1000000) (hi : InsF f.h i (fdF p i.nm)) (hgo : go.length ≤ 1000000) (had : ∀ o ∈ s.os, 0 ≤ o.ad)
include h hI hF hc hl hn hi hgo had
theorem xs_load (hop : i.op = 4) (n : Nat) : Calls Tryz.prog 33 #[.pointer (some ⟨R, 0, none⟩)] W fun e w' => e = .returned (.tuple #[]) ∧ OutX p pp pc L n W0 R w' (stpR p s i) := by
  obtain ⟨d, u, e1, hu, _, _, _, _⟩ := reg_at hc (hi.dd (by omega))
  obtain ⟨a, v, e2, hv, gv, _, _, _⟩ := reg_at hc (hi.aa (by omega))
  have e : getR { s.top.1 with j := s.top.1.j + 1 } i.a = v := gv
  refine stp_do h hI hF hc hl hn (by omega) (fun W1 h1 => rdoes_load R C _ i W1 hop (fun W2 hb => ?_))
  have h2 := h1.below hb
  have hw := RelX.woq (s := { s with top := (topX s, s.top.2) }) h2 hgo had (v + i.n)
  unfold stpR
  rw [if_neg (by omega), if_neg (by omega), if_neg (by omega), if_pos hop]
  simp only [e]
  rw [wrapQ (v + i.n)]
  have hw' : WoQ R (IntKind.i64.wrap (v + i.n)) (woV s.os (IntKind.i64.wrap (v + i.n))) W2 := hw
  cases hr : woR s.os (IntKind.i64.wrap (v + i.n)) with
  | none =>
    rw [woV_no hr] at hw'
    refine (rmem_no R C _ tq a v _ i r W2 e2 (RelX.regX s h2) hv h2.rb hw').mono ?_
    rintro e w' ⟨rfl, ho, hR⟩
    exact ⟨rfl, RelX.stop (s := { s with top := (topX s, s.top.2) }) h2 n (by decide) ho hR⟩
  | some km =>
    obtain ⟨k, m⟩ := km
    rw [woV_at hr] at hw'
    obtain ⟨o, hk, _, hh, _, hm⟩ := rw_some hr
    obtain ⟨x, hx, rfl⟩ := RelX.atO (s := { s with top := (topX s, s.top.2) }) h2 hk
    obtain ⟨y, hy⟩ := word_in hh
    rw [← hm] at hy
    refine (rmem_load R C _ tq P go.length pa a d k m x v u y _ i r go W2 hop e2 e1 (RelX.regX s h2) hv hu h2.rb h2.pv h2.obA hx (List.getElem?_eq_some_iff.1 hx).1 (h2.wd x (List.mem_of_getElem? hx)).2.1 hy hw').mono ?_
    rintro e w' ⟨rfl, hq⟩
    refine ⟨rfl, ?_⟩
    have ey : wdR s.os k m = y := by unfold wdR; rw [hk, Option.bind_some, hy]; rfl
    simp only [ey]
    rw [e1, setR_nat]
    exact ⟨_, _, _, _, _, _, _, RelX.put (s := { s with top := (topX s, s.top.2) }) h2 hq⟩
theorem xs_store (hop : i.op = 5) (n : Nat) : Calls Tryz.prog 33 #[.pointer (some ⟨R, 0, none⟩)] W fun e w' => e = .returned (.tuple #[]) ∧ OutX p pp pc L n W0 R w' (stpR p s i) := by
  obtain ⟨a, v, e2, hv, gv, _, _, _⟩ := reg_at hc (hi.aa (by omega))
  obtain ⟨b, z, e3, hz, gz, _, _, _⟩ := reg_at hc (hi.bb (by omega))
  have e : getR { s.top.1 with j := s.top.1.j + 1 } i.a = v := gv
  have e' : getR { s.top.1 with j := s.top.1.j + 1 } i.b = z := gz
  refine stp_do h hI hF hc hl hn (by omega) (fun W1 h1 => rdoes_store R C _ i W1 hop (fun W2 hb => ?_))
  have h2 := h1.below hb
  have hw := RelX.woq (s := { s with top := (topX s, s.top.2) }) h2 hgo had (v + i.n)
  unfold stpR
  rw [if_neg (by omega), if_neg (by omega), if_neg (by omega), if_neg (by omega), if_pos hop]
  simp only [e, e']
  rw [wrapQ (v + i.n)]
  have hw' : WoQ R (IntKind.i64.wrap (v + i.n)) (woV s.os (IntKind.i64.wrap (v + i.n))) W2 := hw
  cases hr : woR s.os (IntKind.i64.wrap (v + i.n)) with
  | none =>
    rw [woV_no hr] at hw'
    refine (rmem_no R C _ tq a v _ i r W2 e2 (RelX.regX s h2) hv h2.rb hw').mono ?_
    rintro e w' ⟨rfl, ho, hR⟩
    exact ⟨rfl, RelX.stop (s := { s with top := (topX s, s.top.2) }) h2 n (by decide) ho hR⟩
  | some km =>
    obtain ⟨k, m⟩ := km
    rw [woV_at hr] at hw'
    obtain ⟨o, hk, _, hh, _, hm⟩ := rw_some hr
    obtain ⟨x, hx, rfl⟩ := RelX.atO (s := { s with top := (topX s, s.top.2) }) h2 hk
    obtain ⟨y, hy⟩ := word_in hh
    rw [← hm] at hy
    refine (rmem_store R C _ tq P go.length pa a b k m x v z y _ i r go W2 hop e2 e3 (RelX.regX s h2) hv hz h2.rb h2.pv h2.obA hx (List.getElem?_eq_some_iff.1 hx).1 (h2.wd x (List.mem_of_getElem? hx)).2.1 hy hw').mono ?_
    rintro e w' ⟨rfl, hq⟩
    exact ⟨rfl, _, _, _, _, _, _, _, RelX.stored (s := { s with top := (topX s, s.top.2) }) h2 hx hq⟩
end
/-- The numbers that a call hands over. -/
structure ArgQ (rg : List Int) (i : Ins) (vs : List Int) : Prop where
  len : vs.length = i.gs.length
  le : i.gs.length ≤ 7
  at_ : ∀ (j : Nat) (g v : Int), i.gs[j]? = some g → vs[j]? = some v → ∃ n : Nat, g = (n : Int) ∧ rg[n]? = some v
/-- A call of the runtime after which the run goes on. -/
def RtG (p : List Fun) (pp : Option Addr) (pc : Nat) (L : List UInt8) (W0 : World) (R : Nat) (r : Rq) (C ca P pa tq : Nat) (lq : List (Nat × (Cal × Nat))) (go : List (Nat × Ob)) (s1 s2 : Rt) (nm : ByteArray) (vs : List Int) (v : Int) : Prop := ∀ w av W2, RelX p pp pc L W0 R r C ca P pa ((tq, s1.top) :: lq) go w s1 → GatQ w vs av W2 → Calls Tryz.prog 139 #[.pointer (some ⟨R, 0, none⟩), .string nm, av] W2 fun e w' => e = .returned (.int .i64 v) ∧ Onl (fun b => b < w.heap.size) W2 w' ∧ ∃ r' P' pa' go', RelX p pp pc L W0 R r' C ca P' pa' ((tq, s1.top) :: lq) go' w' s2
/-- A call of the runtime that ends the run. -/
def RtZ (p : List Fun) (pp : Option Addr) (pc : Nat) (L : List UInt8) (n : Nat) (W0 : World) (R : Nat) (r : Rq) (C ca P pa tq : Nat) (lq : List (Nat × (Cal × Nat))) (go : List (Nat × Ob)) (s1 : Rt) (o : Oc) (nm : ByteArray) (vs : List Int) : Prop := ∀ w av W2, RelX p pp pc L W0 R r C ca P pa ((tq, s1.top) :: lq) go w s1 → GatQ w vs av W2 → Calls Tryz.prog 139 #[.pointer (some ⟨R, 0, none⟩), .string nm, av] W2 fun e w' => e = .returned (.int .i64 0) ∧ Onl (fun b => b = R) W2 w' ∧ EndX n W0 R w' o
theorem rt_bl {nm : ByteArray} (h : rtA nm.data.toList ≠ none) : 0 ≤ blN nm.toList := by
  rw [ByteArray.toList_eq]
  unfold blN
  cases hr : rtA nm.data.toList with
  | none => exact absurd hr h
  | some k => exact rtA_pos hr
theorem xcall_go {s1 s2 : Rt} {w : World} {vs : List Int} {v : Int} (hw : RelX p pp pc L W0 R r C ca P pa ((tq, s1.top) :: lq) go w s1) (hA : ArA w i.ar i.ac i.gs) (ha : ArgQ s1.top.1.rg i vs) (hrt : rtA i.nm.data.toList ≠ none) (hd : i.d = -1 ∨ (0 ≤ i.d ∧ i.d < s1.top.1.rg.length)) (hG : RtG p pp pc L W0 R r C ca P pa tq lq go s1 s2 i.nm vs v) (n : Nat) : Calls Tryz.prog 105 #[.pointer (some ⟨R, 0, none⟩), .pointer (some ⟨C, lq.length * 6, none⟩), inV i] w fun e w' => e = .returned (.tuple #[]) ∧ OutX p pp pc L n W0 R w' (.inl { s2 with top := (setR s1.top.1 i.d v, s1.top.2) }) := by
  have hb := rt_bl hrt
  have key : ∀ av W2, GatQ w vs av W2 → Calls Tryz.prog 139 #[.pointer (some ⟨R, 0, none⟩), .string i.nm, av] W2 fun e w' => ∃ x, e = .returned (.int .i64 x) ∧ Onl (fun b => b < w.heap.size) W2 w' ∧ (x = v ∧ ∃ r' P' pa' go', RelX p pp pc L W0 R r' C ca P' pa' ((tq, s1.top) :: lq) go' w' s2) := fun av W2 hg => (hG w av W2 hw hg).mono fun e w' ⟨a, b, c⟩ => ⟨v, a, b, rfl, c⟩
  have htop : ∀ {r' P' pa' go' w'}, RelX p pp pc L W0 R r' C ca P' pa' ((tq, s1.top) :: lq) go' w' s2 → s2.top = s1.top := fun h' => by
    have := h'.ls
    simp only [List.map_cons, List.cons.injEq] at this
    exact this.1.symm
  rcases hd with hd | ⟨d0, d1⟩
  · refine rcalls_no R C _ tq s1.top.1.rg vs i w hw.regQ hA ha.le ha.len ha.at_ hb key (by omega) (fun x w' ⟨_, r', P', pa', go', h'⟩ => ?_)
    have e := htop h'
    have e2 : ({ s2 with top := (setR s1.top.1 i.d v, s1.top.2) } : Rt) = s2 := by
      rw [hd]
      unfold setR
      rw [if_pos rfl, ← e]
    rw [e2]
    exact ⟨r', C, ca, P', pa', _, go', h'⟩
  · obtain ⟨d, hdd⟩ : ∃ d : Nat, i.d = (d : Int) := ⟨i.d.toNat, by omega⟩
    refine rcalls_yes R C _ tq s1.top.1.rg vs i w hw.regQ hA ha.le ha.len ha.at_ hb key d hdd (by omega) (fun x w' ⟨_, r', P', pa', go', h'⟩ => ?_) (fun x w' ⟨ex, r', P', pa', go', h'⟩ => ?_)
    · have e := htop h'
      rw [← e] at h'
      have hq := h'.regQ
      rw [e] at hq
      obtain ⟨u, hu⟩ : ∃ u, s1.top.1.rg[d]? = some u := ⟨_, List.getElem?_eq_getElem (by omega)⟩
      obtain ⟨q1, _, _, q4⟩ := hq.at hu
      exact ⟨hq.c1, ⟨u, q1⟩, q4⟩
    · have e := htop h'
      rw [← e] at h'
      subst ex
      rw [hdd, setR_nat, ← e]
      have hq := h'.regQ
      exact ⟨r', C, ca, P', pa', _, go', RelX.put h' ((SetQ.of hq (Below.refl _ _) d x).below (Below.refl _ _).drew)⟩
theorem EndX.onl {n : Nat} {o : Oc} {w w' : World} {q : Nat} {vs : List Value} (h : EndX n W0 R w o) (hq : W0.heap.size ≤ q) (hb : Bk w q 2 vs) (ho : Onl (fun b => b = q) w w') : EndX n W0 R w' o := by
  obtain ⟨r, cp, cc, h1, h2, h3, h4, h5, h6, h7, h8, h9⟩ := h
  exact ⟨r, cp, cc, Onl.below (Nat.le_refl _) h1 ho (fun b e => by rw [e]; exact hq), h2, h3.onl ho (fun e => h3.ne hb (by decide) e), h4, h5, h6, h7, h8, own_onl h9 ho (fun g hg e => by
    obtain ⟨_, cs, hc⟩ := own_block h9 hg
    exact hc.ne hb (by decide) e)⟩
theorem xcall_end {s1 : Rt} {o : Oc} {w : World} {vs : List Int} {n : Nat} (hw : RelX p pp pc L W0 R r C ca P pa ((tq, s1.top) :: lq) go w s1) (hA : ArA w i.ar i.ac i.gs) (ha : ArgQ s1.top.1.rg i vs) (hrt : rtA i.nm.data.toList ≠ none) (hd : i.d = -1 ∨ (0 ≤ i.d ∧ i.d < s1.top.1.rg.length)) (hG : RtZ p pp pc L n W0 R r C ca P pa tq lq go s1 o i.nm vs) : Calls Tryz.prog 105 #[.pointer (some ⟨R, 0, none⟩), .pointer (some ⟨C, lq.length * 6, none⟩), inV i] w fun e w' => e = .returned (.tuple #[]) ∧ OutX p pp pc L n W0 R w' (.inr o) := by
  have hb := rt_bl hrt
  obtain ⟨q0, hQ⟩ := hw.rg (tq, s1.top) (by simp)
  obtain ⟨c0, cs, hC, _⟩ := hw.bC
  have key : ∀ av W2, GatQ w vs av W2 → Calls Tryz.prog 139 #[.pointer (some ⟨R, 0, none⟩), .string i.nm, av] W2 fun e w' => ∃ x, e = .returned (.int .i64 x) ∧ Onl (fun b => b < w.heap.size) W2 w' ∧ (EndX n W0 R w' o ∧ RegQ C (lq.length * 6) tq s1.top.1.rg w') := fun av W2 hg => (hG w av W2 hw hg).mono fun e w' ⟨a, b, c⟩ => ⟨0, a, b.mono (fun k e => by rw [e]; exact hw.rb.lt), c, by
    have hq := RelX.regQ (hw.below hg.bel)
    have hQ2 := hq.bk.onl b (fun e => (hw.below hg.bel).rb.ne hq.bk (by decide) e.symm)
    refine ⟨?_, hQ2, hq.nq⟩
    rw [World.cell?_of_block (b.block C (World.block_lt_of_cell? _ _ hq.c1) (fun e => hw.rb.ne hC (by decide) e.symm))]
    exact hq.c1⟩
  rcases hd with hd | ⟨d0, d1⟩
  · exact rcalls_no R C _ tq s1.top.1.rg vs i w hw.regQ hA ha.le ha.len ha.at_ hb key (by omega) (fun x w' h' => h'.1)
  · obtain ⟨d, hdd⟩ : ∃ d : Nat, i.d = (d : Int) := ⟨i.d.toNat, by omega⟩
    refine rcalls_yes R C _ tq s1.top.1.rg vs i w hw.regQ hA ha.le ha.len ha.at_ hb key d hdd (by omega) (fun x w' h' => ?_) (fun x w' h' => ?_)
    · obtain ⟨u, hu⟩ : ∃ u, s1.top.1.rg[d]? = some u := ⟨_, List.getElem?_eq_getElem (by omega)⟩
      obtain ⟨q1, _, _, q4⟩ := h'.2.at hu
      exact ⟨h'.2.c1, ⟨u, q1⟩, q4⟩
    · exact h'.1.onl q0 h'.2.bk (((Onl.of_below (Below.refl _ _)).set (S := fun b => b = tq) rfl).drewN 1)
end
end Go.Proofs.YtdppoblbenbafaaGreatDoor
