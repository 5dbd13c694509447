/- What stands below a node: the program's belowOf. -/
import Derived.Test.YtkkmeogehapjoaaGreatDoorK1
namespace Go.Proofs.YtkkmeogehapjoaaGreatDoor
open Go.RowKit Go.Shelf
/-- A block of truths. -/
def BlB (w : World) (g : Nat) (l : List Bool) : Prop := w.heap[g]? = some (.cells (l.map Value.bool).toArray 4 (0, 0))
theorem BlB.cell {w : World} {g : Nat} {l : List Bool} (h : BlB w g l) {j : Nat} {y : Bool} (hy : l[j]? = some y) : w.cell? ⟨g, j, none⟩ = some (.bool y) := by
  rw [show w.cell? ⟨g, j, none⟩ = ((l.map Value.bool).toArray)[j]? from Lib.cell_of_heap h j]
  simp [hy]
theorem BlB.fz {w : World} {g : Nat} {l : List Bool} (h : BlB w g l) (j : Nat) : w.frozen? ⟨g, j, none⟩ = false := Lib.frozen_of_heap h j
theorem BlB.set {w : World} {g : Nat} {l : List Bool} (h : BlB w g l) (j : Nat) (y : Bool) : BlB (w.setCell ⟨g, j, none⟩ (.bool y)) g (l.set j y) := by
  unfold BlB at *
  have hlt : g < w.heap.size := (Array.getElem?_eq_some_iff.1 h).1
  simp only [World.setCell, Array.getElem?_modify, if_true, h, Option.map_some]
  congr 2
  simp [List.map_set]
theorem BlB.below {w w' : World} {g : Nat} {l : List Bool} (h : BlB w g l) (hb : Below w.heap.size w w') : BlB w' g l := by
  unfold BlB
  rw [hb.block g (Array.getElem?_eq_some_iff.1 h).1]
  exact h
theorem info4 : (Tryz.prog.info? 4).map (fun i => (i.zero, i.size, i.bytes)) = some (some (.bool false), 1, 1) := by kernel_rfl
theorem made_repB (n : Nat) : (madeCells (Value.bool false).cells (n * 1)).toList = (List.replicate n false).map Value.bool := by
  apply List.ext_getElem?
  intro j
  simp [madeCells, Value.cells, List.getElem?_replicate]
  by_cases h : j < n
  · simp [h, Nat.mod_one]
  · simp [h]
theorem blB_of_own {W : World} {b g n : Nat} {l : List Bool} (h : W.ownsRow b 4 1 (.slice (some ⟨g, 0, none⟩) n n) n (l.map Value.bool)) : BlB W g l := by
  obtain ⟨hl, ⟨e, _⟩ | ⟨g', cap, cur, e, _, hh, _, _, hs, ht⟩⟩ := h
  · cases e
  · cases e
    unfold BlB
    rw [hh, ← ht, List.take_of_length_le (by simp; omega)]
def bKids : List Int → List Bool → List Bool
  | [], b => b
  | y :: r, b => bKids r (b.set y.toNat true)
def ksAt (l : List Nd) (k : Nat) : List Int := match l[k]? with
  | some x => x.ks
  | none => []
def bAll (l : List Nd) : Nat → List Bool → List Bool
  | 0, b => b
  | k + 1, b => bAll l k (if b.getD k false = true then bKids (ksAt l k) b else b)
/-- Which nodes are n, or stand below it. -/
def blwR (l : List Nd) (n : Nat) : List Bool := bAll l (n + 1) ((List.replicate (n + 1) false).set n true)
theorem bKids_len : ∀ (ks : List Int) (b : List Bool), (bKids ks b).length = b.length
  | [], _ => rfl
  | y :: r, b => by rw [bKids, bKids_len r, List.length_set]
set_option maxRecDepth 100000 in
set_option maxHeartbeats 4000000 in
theorem below35 (l : List Nd) (ao : Option Addr) (c n : Nat) (w : World) (hl : NdA w ao c l) (hk : Kin l) (hn : n < l.length) (h1 : l.length ≤ 20000) : Calls Tryz.prog 35 #[.slice ao l.length c, .int .i64 n] w fun e w' => e = .returned (.slice (some ⟨w.heap.size, 0, none⟩) (n + 1) (n + 1)) ∧ Below w.heap.size w w' ∧ BlB w' w.heap.size (blwR l n) := by
  obtain ⟨i0, hi, hz0, hz1, hz2⟩ := info_parts info4
  have HI : Hid (Tryz.prog.info? 4 = some i0 ∧ i0.zero = some (.bool false) ∧ i0.size = 1 ∧ i0.bytes = 1) := ⟨hi, hz0, hz1, hz2⟩
  clear hi hz0 hz1 hz2
  have HL : Hid (NdA w ao c l) := hl
  have HK : Hid (Kin l) := hk
  obtain ⟨m, hm⟩ : ∃ m, m = l.length := ⟨_, rfl⟩
  rw [← hm] at hn h1 ⊢
  have HN : Hid (m = l.length) := hm
  have hnc : m ≤ c := by rw [hm]; exact hl.1
  have hc2 : c ≤ 9223372036854775807 := hl.2.1
  have c53 := cells53
  have c3 := cells3'
  have c4 : Tryz.prog.cellsOf 4 = 1 := by kernel_rfl
  have hw1 : IntKind.i64.wrap ((n : Int) + 1) = (n : Int) + 1 := by simp [IntKind.wrap, IntKind.bits, IntKind.signed]; omega
  clear hl hk hm
  go_enter Tryz.func35, Tryz.ntmps35
  go_wp2_with (first | (at_make; refine wpList_make_full _ rfl _ _ 71 rfl w.heap.size 4 i0 (.bool false) 1 Tryz.underlying71 HI.out.1 HI.out.2.1 HI.out.2.2.1 .i64 .i64 (n + 1) (n + 1) (n + 1) rfl rfl rfl rfl (by rw [HI.out.2.2.2]; omega) (by unfold maxLen; omega) (Nat.le_refl _) ?_; intro w2 hown2 hgrow2; have HO2 : Hid _ := (show w2.ownsRow w.heap.size 4 1 (.slice (some ⟨w.heap.size, 0, none⟩) (n + 1) (n + 1)) (n + 1) (madeCells (Value.bool false).cells ((n + 1) * 1)).toList from hown2); have HG2 : Hid _ := (show w.grownBy w2 none from hgrow2); clear hown2 hgrow2; have hB2 : Below w.heap.size w w2 := (Below.refl _ w).grown HG2.out (Nat.le_refl _) (fun k hk => by cases hk); have b2 : BlB w2 w.heap.size (List.replicate (n + 1) false) := blB_of_own (by have t := HO2.out; rw [made_repB] at t; exact t); have f2 := b2.fz n; have HR0 : Hid (Below w.heap.size w (w2.setCell ⟨w.heap.size, n, none⟩ (.bool true)) ∧ BlB (w2.setCell ⟨w.heap.size, n, none⟩ (.bool true)) w.heap.size ((List.replicate (n + 1) false).set n true)) := ⟨hB2.setCell (p := ⟨w.heap.size, n, none⟩) (Nat.le_refl _) _, b2.set n true⟩; have d2 : w2.cell? ⟨w.heap.size, n, none⟩ = some (.bool false) := b2.cell (by simp); clear hB2 b2 HO2 HG2) | fail)
  go_loopw [6, 8] (fun i _ wx => ∃ (r : Nat) (bs : List Bool), r ≤ n + 1 ∧ i = .int .i64 ((r : Int) - 1) ∧ Below w.heap.size w wx ∧ BlB wx w.heap.size bs ∧ bs.length = n + 1 ∧ blwR l n = bAll l r bs) (fun i _ _ => (intOf i + 1).toNat)
  case atStart => exact ⟨n + 1, _, Nat.le_refl _, by congr 1; omega, HR0.out.1, HR0.out.2, by simp, rfl⟩
  case round =>
    obtain ⟨r, bs, hr, rfl, hB, hb, hbl, hE⟩ := hrel
    clear HR0 d2 f2
    by_cases hr0 : 0 < r
    · obtain ⟨k, rfl⟩ : ∃ k, r = k + 1 := ⟨r - 1, by omega⟩
      have hkk : ((k + 1 : Nat) : Int) - 1 = (k : Int) := by omega
      rw [hkk]
      have hkw : IntKind.i64.wrap ((k : Int) - 1) = (k : Int) - 1 := by simp [IntKind.wrap, IntKind.bits, IntKind.signed]; omega
      obtain ⟨bv, hbv⟩ : ∃ b, bs[k]? = some b := ⟨_, List.getElem?_eq_getElem (by omega)⟩
      have hgd : bs.getD k false = bv := by simp [List.getD, hbv]
      have d0 := hb.cell hbv
      have HS : Hid (Below w.heap.size w wr ∧ BlB wr w.heap.size bs ∧ bs.length = n + 1) := ⟨hB, hb, hbl⟩
      unfold bAll at hE
      rw [hgd] at hE
      have HE : Hid (blwR l n = bAll l k (if bv = true then bKids (ksAt l k) bs else bs)) := hE
      obtain ⟨x, hx⟩ : ∃ x, l[k]? = some x := ⟨_, List.getElem?_eq_getElem (by have := HN.out; omega)⟩
      have hxo := HL.out.2.2.1 x (List.mem_of_getElem? hx)
      obtain ⟨gn, on, he, hnd⟩ := HL.out.2.2.2 (by have := HN.out; omega)
      obtain ⟨y0, y1, y2, y3, y4, y5⟩ := nd_cells hnd hx
      have hg : gn < w.heap.size := World.block_lt_of_cell? _ _ y0
      have a3 := ((bcell hB).1 gn (on + k * 6 + 3) hg).trans y3
      have HKx : Hid (∀ y ∈ x.ks, 0 ≤ y ∧ y < (k : Int)) := HK.out k x hx
      have HI : Hid (∀ W, Below w.heap.size w W → IsA W x.ka x.kc x.ks) := fun W hW => hxo.ks.below hW
      have hks : ksAt l k = x.ks := by unfold ksAt; rw [hx]
      rw [hks] at HE
      have hkc : x.ks.length ≤ x.kc := hxo.ks.1
      have hkc2 : x.kc ≤ 9223372036854775807 := hxo.ks.2.1
      clear hnd hx hxo y0 y1 y2 y3 y4 y5 hks hB hb hbl hE hbv hgd
      subst he
      obtain ⟨K, T, V, ka, kc, ks, F, E⟩ := x
      simp only at *
      obtain ⟨mk, hmk⟩ : ∃ mk, mk = ks.length := ⟨_, rfl⟩
      rw [← hmk] at a3 hkc
      have HM : Hid (mk = ks.length) := hmk
      clear hmk
      cases bv
      · have HE2 : Hid (blwR l n = bAll l k bs) := HE.out
        clear HE
        go_wp2
        exact ⟨⟨k, bs, by omega, rfl, HS.out.1, HS.out.2.1, HS.out.2.2, HE2.out⟩, by simp [intOf]⟩
      · have HE2 : Hid (blwR l n = bAll l k (bKids ks bs)) := HE.out
        clear HE
        go_wp2
        go_loopw [8, 31] (fun _ i wx => ∃ (j : Nat) (b2 : List Bool), j ≤ mk ∧ i = .int .i64 j ∧ Below w.heap.size w wx ∧ BlB wx w.heap.size b2 ∧ b2.length = n + 1 ∧ blwR l n = bAll l k (bKids (ks.drop j) b2)) (fun _ i _ => mk - (intOf i).toNat)
        case atStart => exact ⟨0, bs, Nat.zero_le _, rfl, HS.out.1, HS.out.2.1, HS.out.2.2, HE2.out⟩
        case round =>
          obtain ⟨j, b2, hj, rfl, hB, hb, hbl, hE⟩ := hrel
          clear HS HE2 d0 a3
          by_cases hjm : j < mk
          · obtain ⟨y, hy⟩ : ∃ y, ks[j]? = some y := ⟨_, List.getElem?_eq_getElem (by have := HM.out; omega)⟩
            obtain ⟨gk, ok, rfl, hkc'⟩ := (HI.out _ hB).2.2 (by have := HM.out; omega)
            have b0 := hkc' j y hy
            obtain ⟨q0, q1⟩ := HKx.out y (List.mem_of_getElem? hy)
            obtain ⟨z, rfl⟩ : ∃ z : Nat, y = z := ⟨y.toNat, by omega⟩
            have hdj : ks.drop j = (z : Int) :: ks.drop (j + 1) := by
              obtain ⟨hk', e⟩ := List.getElem?_eq_some_iff.1 hy
              rw [← e]
              exact List.drop_eq_getElem_cons hk'
            rw [hdj] at hE
            unfold bKids at hE
            rw [Int.toNat_natCast] at hE
            have hzn : z < n + 1 := by omega
            obtain ⟨u, hu⟩ : ∃ u, b2[z]? = some u := ⟨_, List.getElem?_eq_getElem (by omega)⟩
            have d0 := hb.cell hu
            have f0 := hb.fz z
            have HS2 : Hid (Below w.heap.size w (wr.setCell ⟨w.heap.size, z, none⟩ (.bool true)) ∧ BlB (wr.setCell ⟨w.heap.size, z, none⟩ (.bool true)) w.heap.size (b2.set z true) ∧ (b2.set z true).length = n + 1 ∧ blwR l n = bAll l k (bKids (ks.drop (j + 1)) (b2.set z true))) := ⟨hB.setCell (p := ⟨w.heap.size, z, none⟩) (Nat.le_refl _) _, hb.set z true, by rw [List.length_set]; exact hbl, hE⟩
            clear hkc' hy hdj hE hB hb hbl hu q0 q1
            go_wp2
            exact ⟨⟨j + 1, b2.set z true, by omega, by go_num, HS2.out.1, HS2.out.2.1, HS2.out.2.2.1, HS2.out.2.2.2⟩, by simp [intOf]; omega⟩
          · obtain rfl : j = mk := by omega
            have hdn : ks.drop j = [] := List.drop_eq_nil_of_le (by have := HM.out; omega)
            rw [hdn] at hE
            have HS2 : Hid (Below w.heap.size w wr ∧ BlB wr w.heap.size b2 ∧ b2.length = n + 1 ∧ blwR l n = bAll l k b2) := ⟨hB, hb, hbl, hE⟩
            clear hdn hE hB hb hbl
            go_wp2
            exact ⟨⟨k, b2, by omega, rfl, HS2.out.1, HS2.out.2.1, HS2.out.2.2.1, HS2.out.2.2.2⟩, by simp [intOf]⟩
    · obtain rfl : r = 0 := by omega
      have HS : Hid (Below w.heap.size w wr ∧ BlB wr w.heap.size (blwR l n)) := ⟨hB, by rw [hE]; exact hb⟩
      clear hB hb hbl hE
      go_wp2
      go_ret
      exact ⟨rfl, HS.out.1, HS.out.2⟩
end Go.Proofs.YtkkmeogehapjoaaGreatDoor
