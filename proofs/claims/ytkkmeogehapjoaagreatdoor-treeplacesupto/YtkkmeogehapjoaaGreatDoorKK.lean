/- What stands below a node: the program's belowOf. The part below a node: plainly; whether there is such a node. A part that grows: what it owns. The part below a node: the program's Sub. -/
import Derived.Test.YtkkmeogehapjoaaGreatDoorK1
import Derived.Test.YtkkmeogehapjoaaGreatDoorSA
import Derived.Laws.OwnMore
import Derived.Laws.ResultCell
namespace Go.Proofs.YtkkmeogehapjoaaGreatDoor
section
open Go.RowKit Go.Shelf
/-- A block of truths. -/
def BlB (w : World) (g : Nat) (l : List Bool) : Prop := w.heap[g]? = some (.cells (l.map Value.bool).toArray 4 (0, 0))
theorem BlB.cell {w : World} {g : Nat} {l : List Bool} (h : BlB w g l) {j : Nat} {y : Bool} (hy : l[j]? = some y) : w.cell? ⟨g, j, none⟩ = some (.bool y) := by
  rw [show w.cell? ⟨g, j, none⟩ = ((l.map Value.bool).toArray)[j]? from Lib.cell_of_heap h j]
  simp [hy]
theorem BlB.fz {w : World} {g : Nat} {l : List Bool} (h : BlB w g l) (j : Nat) : w.frozen? ⟨g, j, none⟩ = false := Lib.frozen_of_heap h j
theorem BlB.set {w : World} {g : Nat} {l : List Bool} (h : BlB w g l) (j : Nat) (y : Bool) : BlB (w.setCell ⟨g, j, none⟩ (.bool y)) g (l.set j y) := by
  unfold BlB at *
  have hlt : g < w.heap.size := (Array.getElem?_eq_some_iff.1 h).1
  simp only [World.setCell, Array.getElem?_modify, if_true, h, Option.map_some]
  congr 2
  simp [List.map_set]
theorem BlB.below {w w' : World} {g : Nat} {l : List Bool} (h : BlB w g l) (hb : Below w.heap.size w w') : BlB w' g l := by
  unfold BlB
  rw [hb.block g (Array.getElem?_eq_some_iff.1 h).1]
  exact h
theorem info4 : (Tryz.prog.info? 4).map (fun i => (i.zero, i.size, i.bytes)) = some (some (.bool false), 1, 1) := by kernel_rfl
theorem made_repB (n : Nat) : (madeCells (Value.bool false).cells (n * 1)).toList = (List.replicate n false).map Value.bool := by
  apply List.ext_getElem?
  intro j
  simp [madeCells, Value.cells, List.getElem?_replicate]
  by_cases h : j < n
  · simp [h, Nat.mod_one]
  · simp [h]
theorem blB_of_own {W : World} {b g n : Nat} {l : List Bool} (h : W.ownsRow b 4 1 (.slice (some ⟨g, 0, none⟩) n n) n (l.map Value.bool)) : BlB W g l := by
  obtain ⟨hl, ⟨e, _⟩ | ⟨g', cap, cur, e, _, hh, _, _, hs, ht⟩⟩ := h
  · cases e
  · cases e
    unfold BlB
    rw [hh, ← ht, List.take_of_length_le (by simp; omega)]
def bKids : List Int → List Bool → List Bool
  | [], b => b
  | y :: r, b => bKids r (b.set y.toNat true)
def ksAt (l : List Nd) (k : Nat) : List Int := match l[k]? with
  | some x => x.ks
  | none => []
def bAll (l : List Nd) : Nat → List Bool → List Bool
  | 0, b => b
  | k + 1, b => bAll l k (if b.getD k false = true then bKids (ksAt l k) b else b)
/-- Which nodes are n, or stand below it. -/
def blwR (l : List Nd) (n : Nat) : List Bool := bAll l (n + 1) ((List.replicate (n + 1) false).set n true)
theorem bKids_len : ∀ (ks : List Int) (b : List Bool), (bKids ks b).length = b.length
  | [], _ => rfl
  | y :: r, b => by rw [bKids, bKids_len r, List.length_set]
set_option maxRecDepth 100000 in
set_option maxHeartbeats 4000000 in
theorem below35 (l : List Nd) (ao : Option Addr) (c n : Nat) (w : World) (hl : NdA w ao c l) (hk : Kin l) (hn : n < l.length) (h1 : l.length ≤ 20000) : Calls Tryz.prog 35 #[.slice ao l.length c, .int .i64 n] w fun e w' => e = .returned (.slice (some ⟨w.heap.size, 0, none⟩) (n + 1) (n + 1)) ∧ Below w.heap.size w w' ∧ BlB w' w.heap.size (blwR l n) := by
  obtain ⟨i0, hi, hz0, hz1, hz2⟩ := info_parts info4
  have HI : Hid (Tryz.prog.info? 4 = some i0 ∧ i0.zero = some (.bool false) ∧ i0.size = 1 ∧ i0.bytes = 1) := ⟨hi, hz0, hz1, hz2⟩
  clear hi hz0 hz1 hz2
  have HL : Hid (NdA w ao c l) := hl
  have HK : Hid (Kin l) := hk
  obtain ⟨m, hm⟩ : ∃ m, m = l.length := ⟨_, rfl⟩
  rw [← hm] at hn h1 ⊢
  have HN : Hid (m = l.length) := hm
  have hnc : m ≤ c := by rw [hm]; exact hl.1
  have hc2 : c ≤ 9223372036854775807 := hl.2.1
  have c53 := cells53
  have c3 := cells3'
  have c4 : Tryz.prog.cellsOf 4 = 1 := by kernel_rfl
  have hw1 : IntKind.i64.wrap ((n : Int) + 1) = (n : Int) + 1 := by simp [IntKind.wrap, IntKind.bits, IntKind.signed]; omega
  clear hl hk hm
  go_enter Tryz.func35, Tryz.ntmps35
  go_wp2_with (first | (at_make; refine wpList_make_full _ rfl _ _ 71 rfl w.heap.size 4 i0 (.bool false) 1 Tryz.underlying71 HI.out.1 HI.out.2.1 HI.out.2.2.1 .i64 .i64 (n + 1) (n + 1) (n + 1) rfl rfl rfl rfl (by rw [HI.out.2.2.2]; omega) (by unfold maxLen; omega) (Nat.le_refl _) ?_; intro w2 hown2 hgrow2; have HO2 : Hid _ := (show w2.ownsRow w.heap.size 4 1 (.slice (some ⟨w.heap.size, 0, none⟩) (n + 1) (n + 1)) (n + 1) (madeCells (Value.bool false).cells ((n + 1) * 1)).toList from hown2); have HG2 : Hid _ := (show w.grownBy w2 none from hgrow2); clear hown2 hgrow2; have hB2 : Below w.heap.size w w2 := (Below.refl _ w).grown HG2.out (Nat.le_refl _) (fun k hk => by cases hk); have b2 : BlB w2 w.heap.size (List.replicate (n + 1) false) := blB_of_own (by have t := HO2.out; rw [made_repB] at t; exact t); have f2 := b2.fz n; have HR0 : Hid (Below w.heap.size w (w2.setCell ⟨w.heap.size, n, none⟩ (.bool true)) ∧ BlB (w2.setCell ⟨w.heap.size, n, none⟩ (.bool true)) w.heap.size ((List.replicate (n + 1) false).set n true)) := ⟨hB2.setCell (p := ⟨w.heap.size, n, none⟩) (Nat.le_refl _) _, b2.set n true⟩; have d2 : w2.cell? ⟨w.heap.size, n, none⟩ = some (.bool false) := b2.cell (by simp); clear hB2 b2 HO2 HG2) | fail)
  go_loopw [6, 8] (fun i _ wx => ∃ (r : Nat) (bs : List Bool), r ≤ n + 1 ∧ i = .int .i64 ((r : Int) - 1) ∧ Below w.heap.size w wx ∧ BlB wx w.heap.size bs ∧ bs.length = n + 1 ∧ blwR l n = bAll l r bs) (fun i _ _ => (intOf i + 1).toNat)
  case atStart => exact ⟨n + 1, _, Nat.le_refl _, by congr 1; omega, HR0.out.1, HR0.out.2, by simp, rfl⟩
  case round =>
    obtain ⟨r, bs, hr, rfl, hB, hb, hbl, hE⟩ := hrel
    clear HR0 d2 f2
    by_cases hr0 : 0 < r
    · obtain ⟨k, rfl⟩ : ∃ k, r = k + 1 := ⟨r - 1, by omega⟩
      have hkk : ((k + 1 : Nat) : Int) - 1 = (k : Int) := by omega
      rw [hkk]
      have hkw : IntKind.i64.wrap ((k : Int) - 1) = (k : Int) - 1 := by simp [IntKind.wrap, IntKind.bits, IntKind.signed]; omega
      obtain ⟨bv, hbv⟩ : ∃ b, bs[k]? = some b := ⟨_, List.getElem?_eq_getElem (by omega)⟩
      have hgd : bs.getD k false = bv := by simp [List.getD, hbv]
      have d0 := hb.cell hbv
      have HS : Hid (Below w.heap.size w wr ∧ BlB wr w.heap.size bs ∧ bs.length = n + 1) := ⟨hB, hb, hbl⟩
      unfold bAll at hE
      rw [hgd] at hE
      have HE : Hid (blwR l n = bAll l k (if bv = true then bKids (ksAt l k) bs else bs)) := hE
      obtain ⟨x, hx⟩ : ∃ x, l[k]? = some x := ⟨_, List.getElem?_eq_getElem (by have := HN.out; omega)⟩
      have hxo := HL.out.2.2.1 x (List.mem_of_getElem? hx)
      obtain ⟨gn, on, he, hnd⟩ := HL.out.2.2.2 (by have := HN.out; omega)
      obtain ⟨y0, y1, y2, y3, y4, y5⟩ := nd_cells hnd hx
      have hg : gn < w.heap.size := World.block_lt_of_cell? _ _ y0
      have a3 := ((bcell hB).1 gn (on + k * 6 + 3) hg).trans y3
      have HKx : Hid (∀ y ∈ x.ks, 0 ≤ y ∧ y < (k : Int)) := HK.out k x hx
      have HI : Hid (∀ W, Below w.heap.size w W → IsA W x.ka x.kc x.ks) := fun W hW => hxo.ks.below hW
      have hks : ksAt l k = x.ks := by unfold ksAt; rw [hx]
      rw [hks] at HE
      have hkc : x.ks.length ≤ x.kc := hxo.ks.1
      have hkc2 : x.kc ≤ 9223372036854775807 := hxo.ks.2.1
      clear hnd hx hxo y0 y1 y2 y3 y4 y5 hks hB hb hbl hE hbv hgd
      subst he
      obtain ⟨K, T, V, ka, kc, ks, F, E⟩ := x
      simp only at *
      obtain ⟨mk, hmk⟩ : ∃ mk, mk = ks.length := ⟨_, rfl⟩
      rw [← hmk] at a3 hkc
      have HM : Hid (mk = ks.length) := hmk
      clear hmk
      cases bv
      · have HE2 : Hid (blwR l n = bAll l k bs) := HE.out
        clear HE
        go_wp2
        exact ⟨⟨k, bs, by omega, rfl, HS.out.1, HS.out.2.1, HS.out.2.2, HE2.out⟩, by simp [intOf]⟩
      · have HE2 : Hid (blwR l n = bAll l k (bKids ks bs)) := HE.out
        clear HE
        go_wp2
        go_loopw [8, 31] (fun _ i wx => ∃ (j : Nat) (b2 : List Bool), j ≤ mk ∧ i = .int .i64 j ∧ Below w.heap.size w wx ∧ BlB wx w.heap.size b2 ∧ b2.length = n + 1 ∧ blwR l n = bAll l k (bKids (ks.drop j) b2)) (fun _ i _ => mk - (intOf i).toNat)
        case atStart => exact ⟨0, bs, Nat.zero_le _, rfl, HS.out.1, HS.out.2.1, HS.out.2.2, HE2.out⟩
        case round =>
          obtain ⟨j, b2, hj, rfl, hB, hb, hbl, hE⟩ := hrel
          clear HS HE2 d0 a3
          by_cases hjm : j < mk
          · obtain ⟨y, hy⟩ : ∃ y, ks[j]? = some y := ⟨_, List.getElem?_eq_getElem (by have := HM.out; omega)⟩
            obtain ⟨gk, ok, rfl, hkc'⟩ := (HI.out _ hB).2.2 (by have := HM.out; omega)
            have b0 := hkc' j y hy
            obtain ⟨q0, q1⟩ := HKx.out y (List.mem_of_getElem? hy)
            obtain ⟨z, rfl⟩ : ∃ z : Nat, y = z := ⟨y.toNat, by omega⟩
            have hdj : ks.drop j = (z : Int) :: ks.drop (j + 1) := by
              obtain ⟨hk', e⟩ := List.getElem?_eq_some_iff.1 hy
              rw [← e]
              exact List.drop_eq_getElem_cons hk'
            rw [hdj] at hE
            unfold bKids at hE
            rw [Int.toNat_natCast] at hE
            have hzn : z < n + 1 := by omega
            obtain ⟨u, hu⟩ : ∃ u, b2[z]? = some u := ⟨_, List.getElem?_eq_getElem (by omega)⟩
            have d0 := hb.cell hu
            have f0 := hb.fz z
            have HS2 : Hid (Below w.heap.size w (wr.setCell ⟨w.heap.size, z, none⟩ (.bool true)) ∧ BlB (wr.setCell ⟨w.heap.size, z, none⟩ (.bool true)) w.heap.size (b2.set z true) ∧ (b2.set z true).length = n + 1 ∧ blwR l n = bAll l k (bKids (ks.drop (j + 1)) (b2.set z true))) := ⟨hB.setCell (p := ⟨w.heap.size, z, none⟩) (Nat.le_refl _) _, hb.set z true, by rw [List.length_set]; exact hbl, hE⟩
            clear hkc' hy hdj hE hB hb hbl hu q0 q1
            go_wp2
            exact ⟨⟨j + 1, b2.set z true, by omega, by go_num, HS2.out.1, HS2.out.2.1, HS2.out.2.2.1, HS2.out.2.2.2⟩, by simp [intOf]; omega⟩
          · obtain rfl : j = mk := by omega
            have hdn : ks.drop j = [] := List.drop_eq_nil_of_le (by have := HM.out; omega)
            rw [hdn] at hE
            have HS2 : Hid (Below w.heap.size w wr ∧ BlB wr w.heap.size b2 ∧ b2.length = n + 1 ∧ blwR l n = bAll l k b2) := ⟨hB, hb, hbl, hE⟩
            clear hdn hE hB hb hbl
            go_wp2
            exact ⟨⟨k, b2, by omega, rfl, HS2.out.1, HS2.out.2.1, HS2.out.2.2.1, HS2.out.2.2.2⟩, by simp [intOf]⟩
    · obtain rfl : r = 0 := by omega
      have HS : Hid (Below w.heap.size w wr ∧ BlB wr w.heap.size (blwR l n)) := ⟨hB, by rw [hE]; exact hb⟩
      clear hB hb hbl hE
      go_wp2
      go_ret
      exact ⟨rfl, HS.out.1, HS.out.2⟩
end
section
open Go.RowKit Go.Shelf
/-- A node without its kids' place in memory. -/
def pu (x : Nd) : Nd := ⟨x.k, x.nm, x.v, none, 0, x.ks, x.fr, x.en⟩
def mapK (P : List Int) (ks : List Int) : List Int := ks.map fun y => P.getD y.toNat 0
/-- The nodes that are taken, from node k on: places of the nodes in the part, the part. -/
def sAll (bs : List Bool) : Nat → List Nd → List Int → List Nd → List Nd
  | _, [], _, Q => Q
  | k, x :: r, P, Q => if bs.getD k false = true then sAll bs (k + 1) r (P.set k (Q.length : Int)) (Q ++ [⟨x.k, x.nm, x.v, none, 0, mapK P x.ks, x.fr, x.en⟩]) else sAll bs (k + 1) r P Q
/-- The part below a node. -/
def subR (l : List Nd) (n : Nat) : List Nd := sAll (blwR l n) 0 (l.take (n + 1)) (List.replicate (n + 1) 0) []
def cnE (l : List Nd) (n : Int) : Int := if rightB l = true then (if n < 0 ∨ (l.length : Int) ≤ n then 9 else 0) else 3
set_option maxRecDepth 100000 in
set_option maxHeartbeats 4000000 in
theorem check34 (l : List Nd) (ao : Option Addr) (c : Nat) (n : Int) (w : World) (hT : Tm w) (hl : NdA w ao c l) : Calls Tryz.prog 34 #[.agg #[.slice ao l.length c], .int .i64 n] w fun e w' => e = .returned (.int .i64 (cnE l n)) ∧ Below w.heap.size w w' := by
  have H11 : Hid (∀ W, Below w.heap.size w W → Calls Tryz.prog 11 #[.agg #[.slice ao l.length c]] W fun e w' => e = .returned (.int .i64 (if rightB l = true then 0 else 3)) ∧ Below W.heap.size W w') := fun W hW => check11 l ao c W (hT.below hW) (hl.below hW)
  unfold cnE
  clear hT hl
  generalize l.length = m at *
  generalize rightB l = rb at *
  cases rb
  · rw [if_neg (by simp)] at H11 ⊢
    go_enter Tryz.func34, Tryz.ntmps34
    go_wp2_with fail
    refine (H11.out _ (below_cells _ _ _)).mono ?_
    rintro e w1 ⟨rfl, hb⟩
    have HB1 : Hid (Below w.heap.size w w1) := (below_cells w _ _).trans (hb.mono (by simp))
    clear hb H11
    go_wp2
    go_ret
    exact ⟨rfl, HB1.out⟩
  · rw [if_pos rfl] at H11 ⊢
    by_cases h0 : n < 0
    · rw [if_pos (.inl h0)]
      go_enter Tryz.func34, Tryz.ntmps34
      go_wp2_with fail
      refine (H11.out _ (below_cells _ _ _)).mono ?_
      rintro e w1 ⟨rfl, hb⟩
      have HB1 : Hid (Below w.heap.size w w1) := (below_cells w _ _).trans (hb.mono (by simp))
      have d0 := (bcell hb).1 w.heap.size 0 (by simp)
      simp at d0
      clear hb H11
      go_wp2
      go_ret
      exact ⟨rfl, HB1.out⟩
    · by_cases h1 : (m : Int) ≤ n
      · rw [if_pos (.inr h1)]
        go_enter Tryz.func34, Tryz.ntmps34
        go_wp2_with fail
        refine (H11.out _ (below_cells _ _ _)).mono ?_
        rintro e w1 ⟨rfl, hb⟩
        have HB1 : Hid (Below w.heap.size w w1) := (below_cells w _ _).trans (hb.mono (by simp))
        have d0 := (bcell hb).1 w.heap.size 0 (by simp)
        simp at d0
        clear hb H11
        go_wp2
        go_ret
        exact ⟨rfl, HB1.out⟩
      · rw [if_neg (by omega)]
        go_enter Tryz.func34, Tryz.ntmps34
        go_wp2_with fail
        refine (H11.out _ (below_cells _ _ _)).mono ?_
        rintro e w1 ⟨rfl, hb⟩
        have HB1 : Hid (Below w.heap.size w w1) := (below_cells w _ _).trans (hb.mono (by simp))
        have d0 := (bcell hb).1 w.heap.size 0 (by simp)
        simp at d0
        clear hb H11
        go_wp2
        go_ret
        exact ⟨rfl, HB1.out⟩
end
section
open Go.RowKit Go.Shelf
theorem own_keep {w w' : World} {base : Nat} {e : TypeId} {size : Nat} {v : Value} {n : Nat} {xs : List Value} (h : w.ownsRow base e size v n xs) (hk : ∀ g, v.ownBlock = some g → w'.heap[g]? = w.heap[g]?) : w'.ownsRow base e size v n xs := by
  obtain ⟨h1, h2⟩ := h
  refine ⟨h1, ?_⟩
  rcases h2 with h | ⟨g, cap, cur, e1, e2, e3, r⟩
  · exact .inl h
  · exact .inr ⟨g, cap, cur, e1, e2, by rw [hk g (by rw [e1]; rfl)]; exact e3, r⟩
theorem own_block {w : World} {base : Nat} {e : TypeId} {size : Nat} {v : Value} {n : Nat} {xs : List Value} (h : w.ownsRow base e size v n xs) {g : Nat} (hg : v.ownBlock = some g) : ∃ cur, w.heap[g]? = some (.cells cur e (0, 0)) ∧ base ≤ g ∧ g < w.heap.size := by
  obtain ⟨h1, h2⟩ := h
  rcases h2 with h | ⟨g', cap, cur, e1, e2, e3, r⟩
  · rw [h.1] at hg
    cases hg
  · rw [e1] at hg
    cases hg
    exact ⟨cur, e3, e2, (Array.getElem?_eq_some_iff.1 e3).1⟩
theorem isa_of_own {w : World} {base : Nat} {a : Option Addr} {c : Nat} {l : List Int} (h : w.ownsRow base 3 1 (.slice a l.length c) l.length (l.map (Value.int .i64))) : IsA w a c l := by
  have h' := h
  obtain ⟨h1, ⟨h, h0⟩ | ⟨g, cap, cur, e1, e2, e3, e4, e5, r⟩⟩ := h
  · simp only [Value.slice.injEq] at h
    obtain ⟨_, _, rfl⟩ := h
    exact ⟨by omega, by decide, fun h => absurd h (by omega)⟩
  · cases e1
    refine ⟨e4, by unfold maxLen at e5; omega, fun hl => ⟨g, 0, rfl, fun j y hy => ?_⟩⟩
    have hj : j < l.length := (List.getElem?_eq_some_iff.1 hy).1
    rw [Nat.zero_add, h'.cellAt j (by omega), List.getElem?_map, hy]
    rfl
/-- A node's kids, in a row of its own. -/
def KidsO (b gP : Nat) (w : World) (x : Nd) : Prop := w.ownsRow b 3 1 (.slice x.ka x.ks.length x.kc) x.ks.length (x.ks.map (Value.int .i64)) ∧ (Value.slice x.ka x.ks.length x.kc).ownBlock ≠ some gP
/-- What Sub keeps, of the nodes so far. -/
structure SubS (w : World) (gP gB : Nat) (bs : List Bool) (n : Nat) (P : List Int) (Q : List Nd) (vp : Value) (wx : World) : Prop where
  bl : Below w.heap.size w wx
  pl : Blk wx gP P
  pn : P.length = n + 1
  pb : w.heap.size ≤ gP
  bb : BlB wx gB bs
  rb : wx.heap[w.heap.size + 1]? = some (.cells #[.slice none 0 0] 24 (0, 0))
  ow : wx.ownsRow w.heap.size 53 6 vp Q.length (Q.flatMap ndc)
  kd : ∀ x ∈ Q, KidsO w.heap.size gP wx x
theorem flat_ndc (Q : List Nd) : (Q.flatMap ndc).length = Q.length * 6 := by
  induction Q with
  | nil => rfl
  | cons x r ih =>
    rw [List.flatMap_cons, List.length_append, ih]
    simp [ndc]
    omega
theorem flat_at : ∀ (Q : List Nd) (i : Nat) (x : Nd) (j : Nat) (y : Value), Q[i]? = some x → (ndc x)[j]? = some y → (Q.flatMap ndc)[i * 6 + j]? = some y
  | q :: r, 0, x, j, y, hx, hy => by
    simp at hx
    subst hx
    rw [List.flatMap_cons, Nat.zero_mul, Nat.zero_add, List.getElem?_append_left ((List.getElem?_eq_some_iff.1 hy).1)]
    exact hy
  | q :: r, i + 1, x, j, y, hx, hy => by
    rw [List.flatMap_cons, List.getElem?_append_right (by simp [ndc]; omega)]
    rw [show (i + 1) * 6 + j - (ndc q).length = i * 6 + j by simp [ndc]; omega]
    exact flat_at r i x j y (by simpa using hx) hy
  | [], i, x, j, y, hx, _ => by simp at hx
theorem SubS.nds {w : World} {gP gB : Nat} {bs : List Bool} {n : Nat} {P : List Int} {Q : List Nd} {vp : Value} {wx : World} (h : SubS w gP gB bs n P Q vp wx) : ∃ qo qc, vp = .slice qo Q.length qc ∧ NdS wx qo qc Q := by
  have ho := h.ow
  obtain ⟨h1, ⟨h2, h0⟩ | ⟨g, cap, cur, e1, e2, e3, e4, e5, r⟩⟩ := h.ow
  · refine ⟨none, 0, by rw [h2, h0], by omega, by omega, fun x hx => isa_of_own (h.kd x hx).1, fun hl => absurd hl (by omega)⟩
  · subst e1
    refine ⟨_, cap, rfl, e4, by unfold maxLen at e5; omega, fun x hx => isa_of_own (h.kd x hx).1, fun hl => ⟨g, 0, rfl, fun i x hi j y hy => ?_⟩⟩
    have hi' : i < Q.length := (List.getElem?_eq_some_iff.1 hi).1
    have hj : j < 6 := by have t := (List.getElem?_eq_some_iff.1 hy).1; simpa [ndc] using t
    rw [Nat.zero_add, ho.cellAt (i * 6 + j) (by omega)]
    exact flat_at Q i x j y hi hy
theorem clone36 (ks : List Int) (ka : Option Addr) (kc : Nat) (W : World) (h : IsA W ka kc ks) (hb : ks.length ≤ 1048576) : Calls Tryz.prog 36 #[.slice ka ks.length kc] W fun e w' => ∃ a c, e = .returned (.slice a ks.length c) ∧ w'.ownsRow W.heap.size 3 1 (.slice a ks.length c) ks.length (ks.map (Value.int .i64)) ∧ Below W.heap.size W w' := by
  have form : ∀ (w' : World) (v' : Value) (n : Nat) (xs : List Value), w'.ownsRow W.heap.size 3 1 v' n xs → ∃ a c, v' = .slice a n c := fun w' v' n xs ho => by
    obtain ⟨_, ⟨e, e0⟩ | ⟨g, cap, cur, e, _⟩⟩ := ho
    · exact ⟨none, 0, by rw [e, e0]⟩
    · exact ⟨_, _, e⟩
  by_cases h0 : ks.length = 0
  · have e0 : ks = [] := List.eq_nil_of_length_eq_zero h0
    subst e0
    cases ka with
    | none => exact (Tryz.slices_Clone_int_nil 0 kc W).mono fun e w' ⟨p, q⟩ => ⟨none, 0, p, by rw [q]; exact World.ownsRow_nil _ _ _ _, by rw [q]; exact Below.refl _ _⟩
    | some a =>
      refine (Tryz.slices_Clone_int_zero a kc W).mono ?_
      rintro e w' ⟨v', p, q, _, r⟩
      obtain ⟨a, c, rfl⟩ := form w' v' _ _ q
      exact ⟨a, c, p, q, r⟩
  · obtain ⟨g, o, rfl, hc⟩ := h.2.2 (by omega)
    have t := Tryz.slices_Clone_int g o ks.length kc ks W (Nat.le_refl _) (by omega) (fun j hj => hc j _ (by simp [List.getD, hj]))
    rw [List.take_length] at t
    refine t.mono ?_
    rintro e w' ⟨v', p, q, _, r⟩
    obtain ⟨a, c, rfl⟩ := form w' v' _ _ q
    exact ⟨a, c, p, q, r⟩
end
section
open Go.RowKit Go.Shelf
theorem info53 : (Tryz.prog.info? 53).map (fun i => (i.zero, i.size, i.bytes)) = some (some (.agg #[.int .i64 0, .string ⟨#[]⟩, .int .i64 0, .slice none 0 0, .int .i64 0, .int .i64 0]), 6, 72) := by kernel_rfl
theorem bAll_len (l : List Nd) : ∀ (k : Nat) (b : List Bool), (bAll l k b).length = b.length
  | 0, _ => rfl
  | k + 1, b => by
    rw [bAll, bAll_len l k]
    split
    · exact bKids_len _ _
    · rfl
theorem blwR_len (l : List Nd) (n : Nat) : (blwR l n).length = n + 1 := by rw [blwR, bAll_len]; simp
theorem SubS.alloc {w : World} {gP gB : Nat} {bs : List Bool} {n : Nat} {P : List Int} {Q : List Nd} {vp : Value} {wx : World} (h : SubS w gP gB bs n P Q vp wx) (o : Obj) : SubS w gP gB bs n P Q vp (wx.alloc o) := by
  have hb : Below wx.heap.size wx (wx.alloc o) := (Below.refl _ wx).alloc (Nat.le_refl _) o
  refine ⟨h.bl.trans (hb.mono h.bl.size), h.pl.below hb, h.pn, h.pb, h.bb.below hb, ?_, own_keep h.ow (fun g hg => ?_), fun x hx => ⟨own_keep (h.kd x hx).1 (fun g hg => ?_), (h.kd x hx).2⟩⟩
  · rw [hb.block _ (Array.getElem?_eq_some_iff.1 h.rb).1]
    exact h.rb
  · obtain ⟨cur, _, _, h3⟩ := own_block h.ow hg
    exact hb.block g h3
  · obtain ⟨cur, _, _, h3⟩ := own_block (h.kd x hx).1 hg
    exact hb.block g h3
/-- A node in a box, its kids in a row of their own. -/
structure InS (wr : World) (K : Int) (T : ByteArray) (V F E : Int) (ca : Option Addr) (mk cc : Nat) (r : List Int) (wx : World) : Prop where
  bl : Below wr.heap.size wr wx
  bx : wx.heap[wr.heap.size]? = some (.cells #[.int .i64 K, .string T, .int .i64 V, .slice ca mk cc, .int .i64 F, .int .i64 E] 53 (0, 0))
  ow : wx.ownsRow (wr.heap.size + 1) 3 1 (.slice ca mk cc) mk (r.map (Value.int .i64))
theorem InS.drew {wr : World} {K : Int} {T : ByteArray} {V F E : Int} {ca : Option Addr} {mk cc : Nat} {r : List Int} {wx : World} (h : InS wr K T V F E ca mk cc r wx) (q : Nat) : InS wr K T V F E ca mk cc r (wx.drewN q) :=
  ⟨h.bl.trans ((drew_below wx q).mono h.bl.size), h.bx, h.ow⟩
theorem InS.start {wr w4 : World} {K : Int} {T : ByteArray} {V F E : Int} {ka ca : Option Addr} {mk kc cc : Nat} {r : List Int} (ho : w4.ownsRow (wr.alloc (.cells #[.int .i64 K, .string T, .int .i64 V, .slice ka mk kc, .int .i64 F, .int .i64 E] 53)).heap.size 3 1 (.slice ca mk cc) mk (r.map (Value.int .i64))) (hb : Below (wr.alloc (.cells #[.int .i64 K, .string T, .int .i64 V, .slice ka mk kc, .int .i64 F, .int .i64 E] 53)).heap.size (wr.alloc (.cells #[.int .i64 K, .string T, .int .i64 V, .slice ka mk kc, .int .i64 F, .int .i64 E] 53)) w4) :
    InS wr K T V F E ca mk cc r (w4.setCell ⟨wr.heap.size, 3, none⟩ (.slice ca mk cc)) ∧ w4.cell? ⟨wr.heap.size, 3, none⟩ = some (.slice ka mk kc) ∧ w4.frozen? ⟨wr.heap.size, 3, none⟩ = false := by
  have hz : (wr.alloc (.cells #[.int .i64 K, .string T, .int .i64 V, .slice ka mk kc, .int .i64 F, .int .i64 E] 53)).heap.size = wr.heap.size + 1 := by simp
  rw [hz] at ho
  have hx : w4.heap[wr.heap.size]? = some (.cells #[.int .i64 K, .string T, .int .i64 V, .slice ka mk kc, .int .i64 F, .int .i64 E] 53 (0, 0)) := by
    rw [hb.block _ (by rw [hz]; omega)]
    exact Go.heap_alloc_new wr _
  have hbw : Below wr.heap.size wr w4 := (below_cells wr _ _).trans (hb.mono (by rw [hz]; omega))
  refine ⟨⟨hbw.setCell (p := ⟨wr.heap.size, 3, none⟩) (Nat.le_refl _) _, ?_, own_keep ho (fun g hg => ?_)⟩, ?_, Lib.frozen_of_heap hx 3⟩
  · simp only [World.setCell, Array.getElem?_modify, if_true, hx, Option.map_some]
    rfl
  · obtain ⟨cur, _, h2, _⟩ := own_block ho hg
    simp only [World.setCell, Array.getElem?_modify]
    rw [if_neg (by show ¬ wr.heap.size = g; omega)]
  · rw [Lib.cell_of_heap hx]
    rfl
theorem mapK_len (P ks : List Int) : (mapK P ks).length = ks.length := by simp [mapK]
theorem mapK_step (P ks : List Int) (j : Nat) (y : Int) (hy : ks[j]? = some y) : (mapK P (ks.take j) ++ ks.drop j).set j (P.getD y.toNat 0) = mapK P (ks.take (j + 1)) ++ ks.drop (j + 1) := by
  obtain ⟨hj, e⟩ := List.getElem?_eq_some_iff.1 hy
  have h1 : (mapK P (ks.take j)).length = j := by rw [mapK_len, List.length_take]; omega
  rw [List.set_append_right _ _ (by omega), h1, Nat.sub_self, List.drop_eq_getElem_cons hj, List.set_cons_zero, List.take_add_one, hy]
  simp [mapK]
theorem InS.at {wr : World} {K : Int} {T : ByteArray} {V F E : Int} {gk mk cc : Nat} {P ks : List Int} {j : Nat} {wx : World} (h : InS wr K T V F E (some ⟨gk, 0, none⟩) mk cc (mapK P (ks.take j) ++ ks.drop j) wx) (hm : mk = ks.length) {y : Int} (hy : ks[j]? = some y) :
    wx.cell? ⟨gk, j, none⟩ = some (.int .i64 y) ∧ wx.cell? ⟨wr.heap.size, 3, none⟩ = some (.slice (some ⟨gk, 0, none⟩) mk cc) ∧ wx.frozen? ⟨gk, j, none⟩ = false ∧ ∀ q u, u = P.getD y.toNat 0 → InS wr K T V F E (some ⟨gk, 0, none⟩) mk cc (mapK P (ks.take (j + 1)) ++ ks.drop (j + 1)) ((wx.drewN q).setCell ⟨gk, j, none⟩ (.int .i64 u)) := by
  obtain ⟨hj, e⟩ := List.getElem?_eq_some_iff.1 hy
  have h1 : (mapK P (ks.take j)).length = j := by rw [mapK_len, List.length_take]; omega
  refine ⟨?_, ?_, h.ow.frozenAt j, fun q u hu => ?_⟩
  · rw [h.ow.cellAt j (by omega), List.getElem?_map, List.getElem?_append_right (by omega), h1, Nat.sub_self, List.getElem?_drop, Nat.add_zero, hy]
    rfl
  · rw [Lib.cell_of_heap h.bx]
    rfl
  · have h' := h.drew q
    have hs := (h'.ow.stored j (.int .i64 u)).1
    have hgk : wr.heap.size + 1 ≤ gk := by
      obtain ⟨cur, _, h2, _⟩ := own_block h.ow (g := gk) rfl
      exact h2
    refine ⟨h'.bl.setCell (p := ⟨gk, j, none⟩) (by show wr.heap.size ≤ gk; omega) _, ?_, ?_⟩
    · simp only [World.setCell, Array.getElem?_modify]
      rw [if_neg (by show ¬ gk = wr.heap.size; omega)]
      exact h'.bx
    · rw [← mapK_step P ks j y hy, ← hu, List.map_set]
      exact hs
theorem InS.boxed {wr : World} {K : Int} {T : ByteArray} {V F E : Int} {ca : Option Addr} {mk cc : Nat} {r : List Int} {wx : World} (h : InS wr K T V F E ca mk cc r wx) {gP : Nat} (hg : gP < wr.heap.size) (k : Nat) (v : Value) :
    (wx.setCell ⟨gP, k, none⟩ v).heap[wr.heap.size]? = some (.cells #[.int .i64 K, .string T, .int .i64 V, .slice ca mk cc, .int .i64 F, .int .i64 E] 53 (0, 0)) := by
  simp only [World.setCell, Array.getElem?_modify]
  rw [if_neg (by show ¬ gP = wr.heap.size; omega)]
  exact h.bx
theorem own_mono {w : World} {base base' : Nat} {e : TypeId} {size : Nat} {v : Value} {n : Nat} {xs : List Value} (h : w.ownsRow base e size v n xs) (hb : base' ≤ base) : w.ownsRow base' e size v n xs := by
  obtain ⟨h1, h2⟩ := h
  refine ⟨h1, ?_⟩
  rcases h2 with h | ⟨g, cap, cur, e1, e2, r⟩
  · exact .inl h
  · exact .inr ⟨g, cap, cur, e1, by omega, r⟩
theorem set_other {w : World} {g k : Nat} {v : Value} {b : Nat} (h : g ≠ b) : (w.setCell ⟨g, k, none⟩ v).heap[b]? = w.heap[b]? := by
  simp only [World.setCell, Array.getElem?_modify]
  rw [if_neg (show ¬ g = b from h)]
theorem SubS.row5 {w : World} {gP gB : Nat} {bs : List Bool} {n : Nat} {P : List Int} {Q : List Nd} {vp : Value} {wr : World} (h : SubS w gP gB bs n P Q vp wr) {wx : World} (hb : Below wr.heap.size wr wx) (k : Nat) (v : Value) : (wx.setCell ⟨gP, k, none⟩ v).ownsRow w.heap.size 53 6 vp Q.length (Q.flatMap ndc) := by
  refine own_keep h.ow (fun g hg => ?_)
  obtain ⟨cur, h1, _, h3⟩ := own_block h.ow hg
  rw [set_other, hb.block g h3]
  rintro rfl
  have t := h.pl
  unfold Blk at t
  rw [h1] at t
  cases t
theorem SubS.push {w : World} {gP gB : Nat} {bs : List Bool} {n : Nat} {P : List Int} {Q : List Nd} {vp : Value} {wr : World} (h : SubS w gP gB bs n P Q vp wr) {K : Int} {T : ByteArray} {V F E : Int} {ca : Option Addr} {mk cc : Nat} {r : List Int} {wx : World} (hI : InS wr K T V F E ca mk cc r wx) (hm : mk = r.length) (k : Nat) {o : Obj} {w6 : World} {v' : Value}
    (hg : ((wx.setCell ⟨gP, k, none⟩ (.int .i64 (Q.length : Nat))).alloc o).grownBy w6 vp.ownBlock) (ho : w6.ownsRow w.heap.size 53 6 v' (Q.length + 1) (Q.flatMap ndc ++ [.int .i64 K, .string T, .int .i64 V, .slice ca mk cc, .int .i64 F, .int .i64 E])) : SubS w gP gB bs n (P.set k (Q.length : Nat)) (Q ++ [⟨K, T, V, ca, cc, r, F, E⟩]) v' w6 := by
  have hPl : gP < wr.heap.size := (Array.getElem?_eq_some_iff.1 h.pl).1
  have hxs := hI.bl.size
  have hsz : ((wx.setCell ⟨gP, k, none⟩ (.int .i64 (Q.length : Nat))).alloc o).heap.size = wx.heap.size + 1 := by simp
  -- what was there and is neither the places' nor the part's stays
  have keep : ∀ b, b < wx.heap.size → b ≠ gP → vp.ownBlock ≠ some b → w6.heap[b]? = wx.heap[b]? := fun b hb h1 h2 => by
    rw [hg.block b (by rw [hsz]; omega) (Ne.symm h2), Lib.alloc_old _ _ _ (by simpa using hb), set_other (Ne.symm h1)]
  have own53 : ∀ b, vp.ownBlock = some b → (∃ cur, wx.heap[b]? = some (.cells cur 53 (0, 0))) ∧ w.heap.size ≤ b := fun b hb => by
    obtain ⟨cur, h1, h2, h3⟩ := own_block h.ow hb
    exact ⟨⟨cur, by rw [hI.bl.block b h3]; exact h1⟩, h2⟩
  have notP : vp.ownBlock ≠ some gP := fun e => by
    obtain ⟨cur, h1, _⟩ := own_block h.ow e
    have t := h.pl
    unfold Blk at t
    rw [h1] at t
    cases t
  have hpl : Blk wx gP P := h.pl.below hI.bl
  have hbb : BlB wx gB bs := h.bb.below hI.bl
  have hrb : wx.heap[w.heap.size + 1]? = some (.cells #[.slice none 0 0] 24 (0, 0)) := by
    rw [hI.bl.block _ (Array.getElem?_eq_some_iff.1 h.rb).1]
    exact h.rb
  refine ⟨?_, ?_, by rw [List.length_set]; exact h.pn, h.pb, ?_, ?_, ?_, ?_⟩
  · have b1 : Below w.heap.size w wx := h.bl.trans (hI.bl.mono h.bl.size)
    have b2 : Below w.heap.size w (wx.setCell ⟨gP, k, none⟩ (.int .i64 (Q.length : Nat))) := b1.setCell (p := ⟨gP, k, none⟩) h.pb _
    have b3 := b2.alloc b2.size o
    exact b3.grown hg b3.size (fun b hb => (own53 b hb).2)
  · have t : Blk (wx.setCell ⟨gP, k, none⟩ (.int .i64 (Q.length : Nat))) gP (P.set k (Q.length : Nat)) := hpl.set k _
    have hlt : gP < wx.heap.size := by omega
    unfold Blk
    rw [hg.block gP (by rw [hsz]; omega) (Ne.symm notP), Lib.alloc_old _ _ _ (by simpa using hlt)]
    exact t
  · have hlt : gB < wx.heap.size := (Array.getElem?_eq_some_iff.1 hbb).1
    unfold BlB
    rw [keep gB hlt (fun e => ?_) (fun e => ?_)]
    · exact hbb
    · have t := hbb
      unfold BlB at t
      unfold Blk at hpl
      rw [e, hpl] at t
      simp at t
    · obtain ⟨⟨cur, h1⟩, _⟩ := own53 gB e
      have t := hbb
      unfold BlB at t
      rw [h1] at t
      cases t
  · have hlt := (Array.getElem?_eq_some_iff.1 hrb).1
    rw [keep _ hlt (fun e => ?_) (fun e => ?_)]
    · exact hrb
    · unfold Blk at hpl
      rw [e, hpl] at hrb
      simp at hrb
    · obtain ⟨⟨cur, h1⟩, _⟩ := own53 _ e
      rw [h1] at hrb
      cases hrb
  · rw [List.length_append, List.flatMap_append]
    simp only [List.length_singleton, List.flatMap_cons, List.flatMap_nil, List.append_nil]
    have e : ndc ⟨K, T, V, ca, cc, r, F, E⟩ = [.int .i64 K, .string T, .int .i64 V, .slice ca mk cc, .int .i64 F, .int .i64 E] := by simp [ndc, hm]
    rw [e]
    exact ho
  · intro x hx
    rcases List.mem_append.1 hx with hx | hx
    · obtain ⟨h1, h2⟩ := h.kd x hx
      refine ⟨own_keep h1 (fun b hb => ?_), h2⟩
      obtain ⟨cur, e1, _, e3⟩ := own_block h1 hb
      rw [keep b (by omega) (fun e => h2 (by rw [hb, e])) (fun e => ?_), hI.bl.block b e3]
      obtain ⟨⟨cur', h1'⟩, _⟩ := own53 b e
      rw [hI.bl.block b e3, e1] at h1'
      cases h1'
    · rw [List.mem_singleton] at hx
      subst hx
      have hk' : wx.ownsRow w.heap.size 3 1 (.slice ca r.length cc) r.length (r.map (Value.int .i64)) := by
        have t := hI.ow
        rw [hm] at t
        exact own_mono t (by have := h.bl.size; omega)
      have hbk : ∀ b, (Value.slice ca r.length cc).ownBlock = some b → wr.heap.size + 1 ≤ b ∧ b < wx.heap.size := fun b hb => by
        have t := hI.ow
        rw [hm] at t
        obtain ⟨cur, _, e2, e3⟩ := own_block t hb
        exact ⟨e2, e3⟩
      refine ⟨own_keep hk' (fun b hb => ?_), fun e => ?_⟩
      · obtain ⟨e2, e3⟩ := hbk b hb
        refine keep b e3 (by omega) (fun e => ?_)
        obtain ⟨cur, _, _, e4⟩ := own_block h.ow e
        omega
      · have := (hbk gP e).1
        omega
theorem six_row {W : World} {a b c d e f : Value} {t : TypeId} {j : Nat} {u : Value} (h : [a, b, c, d, e, f][j]? = some u) : (W.alloc (.cells #[a, b, c, d, e, f] t)).cell? (Addr.add ⟨W.heap.size, 0, none⟩ j) = some u := by
  rw [Addr.add_lit, Nat.zero_add, Lib.cell_of_heap (Go.heap_alloc_new W _)]
  simpa using h
set_option maxRecDepth 100000 in
set_option maxHeartbeats 4000000 in
theorem sub_right (l : List Nd) (ao : Option Addr) (c n : Nat) (w : World) (hT : Tm w) (hl : NdA w ao c l) (hr : rightB l = true) (hn : n < l.length) (hks : ∀ x ∈ l, x.ks.length ≤ 1048576) : Calls Tryz.prog 16 #[.agg #[.slice ao l.length c], .int .i64 n] w fun e w' => Below w.heap.size w w' ∧ ∃ qo qc Q, e = .returned (.tuple #[.agg #[.slice qo (List.length Q) qc], .int .i64 0]) ∧ NdS w' qo qc Q ∧ Q.map pu = subR l n := by
  obtain ⟨p, hp, _⟩ := right_par hr
  have h01 := right_len hr
  have H34 : Hid (∀ W, Below w.heap.size w W → Calls Tryz.prog 34 #[.agg #[.slice ao l.length c], .int .i64 n] W fun e w' => e = .returned (.int .i64 0) ∧ Below W.heap.size W w') := fun W hW => by
    have t := check34 l ao c n W (hT.below hW) (hl.below hW)
    unfold cnE at t
    rw [if_pos hr, if_neg (by omega)] at t
    exact t
  have H35 : Hid (∀ W, Below w.heap.size w W → Calls Tryz.prog 35 #[.slice ao l.length c, .int .i64 n] W fun e w' => e = .returned (.slice (some ⟨W.heap.size, 0, none⟩) (n + 1) (n + 1)) ∧ Below W.heap.size W w' ∧ BlB w' W.heap.size (blwR l n)) := fun W hW => below35 l ao c n W (hl.below hW) (par_kin hp) hn h01.2
  obtain ⟨i0, hi, hz0, hz1, hz2⟩ := info_parts info3
  have HI : Hid (Tryz.prog.info? 3 = some i0 ∧ i0.zero = some (.int .i64 0) ∧ i0.size = 1 ∧ i0.bytes = 8) := ⟨hi, hz0, hz1, hz2⟩
  clear hi hz0 hz1 hz2
  obtain ⟨i5, hi, hz0, hz1, hz2⟩ := info_parts info53
  have HI53 : Hid (Tryz.prog.info? 53 = some i5 ∧ i5.zero = some (.agg #[.int .i64 0, .string ⟨#[]⟩, .int .i64 0, .slice none 0 0, .int .i64 0, .int .i64 0]) ∧ i5.size = 6 ∧ i5.bytes = 72) := ⟨hi, hz0, hz1, hz2⟩
  clear hi hz0 hz1 hz2
  have HL : Hid (NdA w ao c l) := hl
  have HK : Hid (Kin l) := par_kin hp
  have HQ : Hid (∀ x ∈ l, x.ks.length ≤ 1048576) := hks
  obtain ⟨m, hm⟩ : ∃ m, m = l.length := ⟨_, rfl⟩
  rw [← hm] at hn H34 H35 h01 ⊢
  have HN : Hid (m = l.length) := hm
  have hnc : m ≤ c := by rw [hm]; exact hl.1
  have hc2 : c ≤ 9223372036854775807 := hl.2.1
  have h1 := h01.2
  have c53 := cells53
  have c3 := cells3'
  have c4 : Tryz.prog.cellsOf 4 = 1 := by kernel_rfl
  have hw1 : IntKind.i64.wrap ((n : Int) + 1) = (n : Int) + 1 := by simp [IntKind.wrap, IntKind.bits, IntKind.signed]; omega
  have hnm : n + 1 ≤ c := by omega
  obtain ⟨bs, hbs⟩ : ∃ bs, bs = blwR l n := ⟨_, rfl⟩
  have HBS : Hid (bs = blwR l n) := hbs
  rw [← hbs] at H35
  clear hl hm hks hT hr hp h01 hbs
  have HBA : Hid (∀ o o', Below w.heap.size w ((w.alloc o).alloc o')) := fun o o' => ((Below.refl _ w).alloc (Nat.le_refl _) o).alloc (by simp) o'
  go_enter Tryz.func16, Tryz.ntmps16
  go_wp2_with fail
  refine (H34.out _ (HBA.out _ _)).mono ?_
  rintro e w1 ⟨rfl, hb⟩
  have HB1 : Hid (Below w.heap.size w w1) := (HBA.out _ _).trans (hb.mono (by simp; omega))
  have d0 := (bcell hb).1 w.heap.size 0 (by simp; omega)
  have d2 : w1.heap[w.heap.size + 1]? = some (.cells #[.slice none 0 0] 24 (0, 0)) := by
    rw [hb.block (w.heap.size + 1) (by simp)]
    have t := Go.heap_alloc_new (w.alloc (.cells #[.slice ao m c] 24)) (.cells #[.slice none 0 0] 24)
    simpa using t
  simp at d0
  have hz1 : w.heap.size + 1 < w1.heap.size := (Array.getElem?_eq_some_iff.1 d2).1
  have HD2 : Hid (w1.heap[w.heap.size + 1]? = some (.cells #[.slice none 0 0] 24 (0, 0))) := d2
  clear hb H34 d2 HBA
  go_wp2_with (first | (at_make; refine wpList_make_full _ rfl _ _ 42 rfl w1.heap.size 3 i0 (.int .i64 0) 1 Tryz.underlying42 HI.out.1 HI.out.2.1 HI.out.2.2.1 .i64 .i64 (n + 1) (n + 1) (n + 1) rfl rfl rfl rfl (by rw [HI.out.2.2.2]; omega) (by unfold maxLen; omega) (Nat.le_refl _) ?_; intro w2 hown2 hgrow2; have HO2 : Hid _ := (show w2.ownsRow w1.heap.size 3 1 (.slice (some ⟨w1.heap.size, 0, none⟩) (n + 1) (n + 1)) (n + 1) (madeCells (Value.int .i64 0).cells ((n + 1) * 1)).toList from hown2); have HG2 : Hid _ := (show w1.grownBy w2 none from hgrow2); clear hown2 hgrow2; have HB2 : Hid (Below w1.heap.size w1 w2) := (Below.refl _ w1).grown HG2.out (Nat.le_refl _) (fun k hk => by cases hk); have HK2 : Hid (Blk w2 w1.heap.size (List.replicate (n + 1) 0)) := blk_of_own (by have t := HO2.out; rw [made_rep] at t; exact t); have e0 := ((bcell HB2.out).1 w.heap.size 0 (by omega)).trans d0; clear HO2 HG2) | fail)
  refine (H35.out _ (HB1.out.trans (HB2.out.mono HB1.out.size))).mono ?_
  rintro e w3 ⟨rfl, hb, hbb⟩
  have f0 := ((bcell hb).1 w.heap.size 0 (World.block_lt_of_cell? _ _ e0)).trans e0
  have HS3 : Hid (SubS w w1.heap.size w2.heap.size bs n (List.replicate (n + 1) 0) [] (.slice none 0 0) w3) := ⟨(HB1.out.trans (HB2.out.mono HB1.out.size)).trans (hb.mono (by have := HB1.out.size; have := HB2.out.size; omega)), HK2.out.below hb, by simp, HB1.out.size, hbb, by rw [hb.block _ (by have := HB2.out.size; omega), HB2.out.block _ hz1]; exact HD2.out, World.ownsRow_nil _ _ _ _, fun x hx => by cases hx⟩
  generalize w1.heap.size = gP at *
  generalize w2.heap.size = gB at *
  clear hb hbb e0 d0 HB2 HK2 H35
  go_wp2
  go_loopw [7, 10, 11, 12, 13, 34] (fun vp _ _ _ _ i wx => ∃ (k : Nat) (P : List Int) (Q : List Nd), k ≤ n + 1 ∧ i = .int .i64 k ∧ SubS w gP gB bs n P Q vp wx ∧ Q.length ≤ k ∧ sAll bs k ((l.take (n + 1)).drop k) P (Q.map pu) = subR l n) (fun _ _ _ _ _ i _ => n + 1 - (intOf i).toNat)
  case atStart => exact ⟨0, _, [], Nat.zero_le _, rfl, HS3.out, Nat.zero_le _, by rw [HBS.out]; rfl⟩
  case round =>
    obtain ⟨k, P, Q, hk, rfl, hS, hQk, hE⟩ := hrel
    clear HS3
    by_cases hlt : k < n + 1
    · obtain ⟨x, hx⟩ : ∃ x, l[k]? = some x := ⟨_, List.getElem?_eq_getElem (by have := HN.out; omega)⟩
      have hxm := List.mem_of_getElem? hx
      have hxo := HL.out.2.2.1 x hxm
      obtain ⟨gn, on, he, hnd⟩ := HL.out.2.2.2 (by have := HN.out; omega)
      obtain ⟨y0, y1, y2, y3, y4, y5⟩ := nd_cells hnd hx
      have hg : gn < w.heap.size := World.block_lt_of_cell? _ _ y0
      have a0 := ((bcell hS.bl).1 gn _ hg).trans y0
      have a1 := ((bcell hS.bl).1 gn _ hg).trans y1
      have a2 := ((bcell hS.bl).1 gn _ hg).trans y2
      have a3 := ((bcell hS.bl).1 gn _ hg).trans y3
      have a4 := ((bcell hS.bl).1 gn _ hg).trans y4
      have a5 := ((bcell hS.bl).1 gn _ hg).trans y5
      obtain ⟨bv, hbv⟩ : ∃ b, bs[k]? = some b := ⟨_, List.getElem?_eq_getElem (by rw [HBS.out, blwR_len]; exact hlt)⟩
      have hgd : bs.getD k false = bv := by simp [List.getD, hbv]
      have b0 := hS.bb.cell hbv
      have hgB : gB < wr.heap.size := World.block_lt_of_cell? _ _ b0
      have hbA : ∀ o i, (wr.alloc o).cell? ⟨gB, i, none⟩ = wr.cell? ⟨gB, i, none⟩ := fun o i => (bcell ((Below.refl _ wr).alloc (Nat.le_refl _) o)).1 gB i hgB
      have hdk : (l.take (n + 1)).drop k = x :: (l.take (n + 1)).drop (k + 1) := by
        have hx' : (l.take (n + 1))[k]? = some x := by rw [List.getElem?_take_of_lt hlt]; exact hx
        obtain ⟨hk', e⟩ := List.getElem?_eq_some_iff.1 hx'
        rw [← e]
        exact List.drop_eq_getElem_cons hk'
      rw [hdk] at hE
      unfold sAll at hE
      rw [hgd] at hE
      have HSr : Hid (SubS w gP gB bs n P Q u7 wr) := hS
      have HKx : Hid (∀ y ∈ x.ks, 0 ≤ y ∧ y < (k : Int)) := HK.out k x hx
      have HIx : Hid (∀ W, Below w.heap.size w W → IsA W x.ka x.kc x.ks) := fun W hW => hxo.ks.below hW
      have hkl := HQ.out x hxm
      have H36 : Hid (∀ W, Below w.heap.size w W → Calls Tryz.prog 36 #[.slice x.ka x.ks.length x.kc] W fun e w' => ∃ a c, e = .returned (.slice a x.ks.length c) ∧ w'.ownsRow W.heap.size 3 1 (.slice a x.ks.length c) x.ks.length (x.ks.map (Value.int .i64)) ∧ Below W.heap.size W w') := fun W hW => clone36 x.ks x.ka x.kc W (hxo.ks.below hW) hkl
      subst he
      clear hnd hx hxm hxo y0 y1 y2 y3 y4 y5 hdk hgd hbv hS
      cases bv
      · have HE : Hid (sAll bs (k + 1) ((l.take (n + 1)).drop (k + 1)) P (Q.map pu) = subR l n) := hE
        clear hE H36
        go_wp2
        exact ⟨⟨k + 1, P, Q, by omega, by go_num, HSr.out.alloc _, by omega, HE.out⟩, by simp [intOf]; omega⟩
      · have HE : Hid (sAll bs (k + 1) ((l.take (n + 1)).drop (k + 1)) (P.set k (((Q.map pu).length : Nat) : Int)) (Q.map pu ++ [⟨x.k, x.nm, x.v, none, 0, mapK P x.ks, x.fr, x.en⟩]) = subR l n) := hE
        clear hE
        obtain ⟨K, T, V, ka, kc, ks, F, E⟩ := x
        simp only at *
        obtain ⟨mk, hmk⟩ : ∃ mk, mk = ks.length := ⟨_, rfl⟩
        rw [← hmk] at a3 hkl H36
        have HM : Hid (mk = ks.length) := hmk
        clear hmk
        go_wp2_with fail
        refine (H36.out _ (HSr.out.alloc _).bl).mono ?_
        rintro e w4 ⟨ca, cc, rfl, ho4, hb4⟩
        obtain ⟨hI5, d3, f3⟩ := InS.start ho4 hb4
        have HI5 : Hid (InS wr K T V F E ca mk cc ks (w4.setCell ⟨wr.heap.size, 3, none⟩ (.slice ca mk cc))) := hI5
        have g3 : (w4.setCell ⟨wr.heap.size, 3, none⟩ (.slice ca mk cc)).cell? ⟨wr.heap.size, 3, none⟩ = some (.slice ca mk cc) := by rw [Lib.cell_of_heap hI5.bx]; rfl
        clear ho4 hb4 hI5 H36 a0 a1 a2 a3 a4 a5 b0
        have hPl : gP < wr.heap.size := (Array.getElem?_eq_some_iff.1 HSr.out.pl).1
        go_wp2
        clear g3 d3 f3
        go_loopw [12, 13, 51] (fun _ _ i wx => ∃ j : Nat, j ≤ mk ∧ i = .int .i64 j ∧ InS wr K T V F E ca mk cc (mapK P (ks.take j) ++ ks.drop j) wx) (fun _ _ i _ => mk - (intOf i).toNat)
        case atStart => exact ⟨0, Nat.zero_le _, rfl, HI5.out⟩
        case round =>
          obtain ⟨j, hj, rfl, hI⟩ := hrel
          have HI6 : Hid _ := hI
          by_cases hjm : j < mk
          · obtain ⟨y, hy⟩ : ∃ y, ks[j]? = some y := ⟨_, List.getElem?_eq_getElem (by have := HM.out; omega)⟩
            obtain ⟨q0, q1⟩ := HKx.out y (List.mem_of_getElem? hy)
            obtain ⟨z, rfl⟩ : ∃ z : Nat, y = z := ⟨y.toNat, by omega⟩
            have hmk0 : 0 < mk := by omega
            obtain ⟨gk, e1⟩ : ∃ gk, ca = some ⟨gk, 0, none⟩ := by
              obtain ⟨_, ⟨_, h0⟩ | ⟨g, cap, cur, e, _⟩⟩ := hI.ow
              · omega
              · cases e
                exact ⟨g, rfl⟩
            subst e1
            have hmc : mk ≤ cc ∧ cc ≤ 9223372036854775807 := by
              obtain ⟨_, ⟨_, h0⟩ | ⟨g, cap, cur, e, _, _, e4, e5, _⟩⟩ := hI.ow
              · omega
              · cases e
                exact ⟨e4, by unfold maxLen at e5; omega⟩
            obtain ⟨p0, p3, p4, hstep⟩ := hI.at HM.out hy
            rw [Int.toNat_natCast] at hstep
            obtain ⟨u, hu⟩ : ∃ u, P[z]? = some u := ⟨_, List.getElem?_eq_getElem (by have := HSr.out.pn; omega)⟩
            have r0 := ((bcell hI.bl).1 gP z hPl).trans (HSr.out.pl.cell hu)
            have HST : Hid _ := fun q => hstep q u (by simp [List.getD, hu])
            have hmc1 := hmc.1
            have hmc2 := hmc.2
            have hzn : z < n + 1 := by omega
            clear hI hstep hu hmc hy q0 q1
            go_wp2_with fail
            go_region
            go_wp2
            exact ⟨⟨j + 1, by omega, by go_num, HST.out 1⟩, by simp [intOf]; omega⟩
          · obtain rfl : j = mk := by omega
            have hdn : ks.drop j = [] := List.drop_eq_nil_of_le (by have := HM.out; omega)
            have htk : ks.take j = ks := List.take_of_length_le (by have := HM.out; omega)
            rw [hdn, htk, List.append_nil] at hI
            have HIN : Hid _ := hI
            have hzk : ∃ u, P[k]? = some u := ⟨_, List.getElem?_eq_getElem (by have := HSr.out.pn; omega)⟩
            obtain ⟨u, hu⟩ := hzk
            have r0 := ((bcell hI.bl).1 gP k hPl).trans (HSr.out.pl.cell hu)
            have r1 : wr.frozen? ⟨gP, k, none⟩ = false := (HSr.out.pl.below hI.bl).fz k
            obtain ⟨qo, qc, hvp, _⟩ := HSr.out.nds
            have hq1 : Q.length ≤ 20000 := by omega
            clear hdn htk hI HI6 hu
            subst hvp
            have hbx := HIN.out.boxed hPl k (.int .i64 (Q.length : Nat))
            have t0 := Lib.cell_of_heap hbx 0
            have t1 := Lib.cell_of_heap hbx 1
            have t2 := Lib.cell_of_heap hbx 2
            have t3 := Lib.cell_of_heap hbx 3
            have t4 := Lib.cell_of_heap hbx 4
            have t5 := Lib.cell_of_heap hbx 5
            simp only [List.getElem?_toArray, List.getElem?_cons_zero, List.getElem?_cons_succ] at t0 t1 t2 t3 t4 t5
            have HBX : Hid _ := hbx
            clear hbx
            have HOW : Hid (∀ o, ((wr.setCell ⟨gP, k, none⟩ (.int .i64 (Q.length : Nat))).alloc o).ownsRow w.heap.size 53 6 (.slice qo Q.length qc) Q.length (Q.flatMap ndc)) := fun o => own_keep (HSr.out.row5 HIN.out.bl k (.int .i64 (Q.length : Nat))) (fun g hg => by
              obtain ⟨_, _, _, e3⟩ := own_block (HSr.out.row5 HIN.out.bl k (.int .i64 (Q.length : Nat))) hg
              exact Lib.alloc_old _ _ _ e3)
            have hsw : (wr.setCell ⟨gP, k, none⟩ (.int .i64 (Q.length : Nat))).heap.size = wr.heap.size := by simp
            go_wp2_with (at_builtin; refine wpList_append_own _ rfl _ _ 22 rfl w.heap.size 53 i5 (.agg #[.int .i64 0, .string ⟨#[]⟩, .int .i64 0, .slice none 0 0, .int .i64 0, .int .i64 0]) 6 72 Tryz.underlying22 HI53.out.1 HI53.out.2.1 HI53.out.2.2.1 HI53.out.2.2.2 rfl (by decide) _ _ _ rfl (HOW.out _) ⟨wr.heap.size, 0, none⟩ 1 1 [.int .i64 K, .string T, .int .i64 V, .slice ca j cc, .int .i64 F, .int .i64 E] rfl (by rfl) (by intro q u hq; have t := six_row (W := wr.setCell ⟨gP, k, none⟩ (.int .i64 (Q.length : Nat))) (t := 53) hq; rw [hsw] at t; exact t) (by simp [Value.oneCell']) (by unfold maxLen; omega) (by omega) (by have := HSr.out.bl.size; have := HIN.out.bl.size; simp; omega) ?_; intro v6 w6 hown6 hgrow6 _; have HS6 : Hid _ := HSr.out.push HIN.out (by rw [mapK_len]; exact HM.out) k hgrow6 hown6; clear hown6 hgrow6)
            refine ⟨⟨k + 1, _, _, by omega, by go_num, HS6.out, by rw [List.length_append, List.length_singleton]; omega, ?_⟩, by simp [intOf]; omega⟩
            rw [← HE.out, List.map_append, List.length_map]
            rfl
    · obtain rfl : k = n + 1 := by omega
      have hdn : (l.take (n + 1)).drop (n + 1) = [] := List.drop_eq_nil_of_le (by simp; omega)
      rw [hdn] at hE
      obtain ⟨qo, qc, hvp, hnd⟩ := hS.nds
      subst hvp
      have r0 : wr.cell? ⟨w.heap.size + 1, 0, none⟩ = some (.slice none 0 0) := by rw [Lib.cell_of_heap hS.rb]; rfl
      have r1 : wr.frozen? ⟨w.heap.size + 1, 0, none⟩ = false := Lib.frozen_of_heap hS.rb 0
      have hbs : Below w.heap.size w (wr.setCell ⟨w.heap.size + 1, 0, none⟩ (.slice qo Q.length qc)) := hS.bl.setCell (p := ⟨w.heap.size + 1, 0, none⟩) (by show w.heap.size ≤ w.heap.size + 1; omega) _
      have HF : Hid (Below w.heap.size w (wr.setCell ⟨w.heap.size + 1, 0, none⟩ (.slice qo Q.length qc)) ∧ NdS (wr.setCell ⟨w.heap.size + 1, 0, none⟩ (.slice qo Q.length qc)) qo qc Q ∧ Q.map pu = subR l n) := by
        refine ⟨hbs, ?_, hE⟩
        have hne : ∀ (b : Nat) (t : TypeId) (cs : Array Value), t ≠ 24 → wr.heap[b]? = some (.cells cs t (0, 0)) → (wr.setCell ⟨w.heap.size + 1, 0, none⟩ (.slice qo Q.length qc)).heap[b]? = wr.heap[b]? := fun b t cs ht hb => set_other (by
          rintro rfl
          rw [hS.rb] at hb
          simp at hb
          exact ht hb.2.symm)
        have hkd : ∀ x ∈ Q, IsA (wr.setCell ⟨w.heap.size + 1, 0, none⟩ (.slice qo Q.length qc)) x.ka x.kc x.ks := fun x hx => isa_of_own (own_keep (hS.kd x hx).1 (fun g hg => by
          obtain ⟨cur, e1, _⟩ := own_block (hS.kd x hx).1 hg
          exact hne g 3 cur (by decide) e1))
        have how := own_keep (w' := wr.setCell ⟨w.heap.size + 1, 0, none⟩ (.slice qo Q.length qc)) hS.ow (fun g hg => by
          obtain ⟨cur, e1, _⟩ := own_block hS.ow hg
          exact hne g 53 cur (by decide) e1)
        refine ⟨hnd.1, hnd.2.1, hkd, fun hl => ?_⟩
        obtain ⟨g, o, e1, e2⟩ := hnd.2.2.2 hl
        refine ⟨g, o, e1, fun i x hi j y hy => ?_⟩
        have hblk : (wr.setCell ⟨w.heap.size + 1, 0, none⟩ (.slice qo Q.length qc)).heap[g]? = wr.heap[g]? := by
          obtain ⟨cur, e3, _⟩ := own_block hS.ow (g := g) (by rw [e1]; rfl)
          exact hne g 53 cur (by decide) e3
        have t := e2 i x hi j y hy
        unfold World.cell? at t ⊢
        simp only [hblk]
        exact t
      clear hdn hE hnd hbs hS
      have g0 : (wr.setCell ⟨w.heap.size + 1, 0, none⟩ (.slice qo Q.length qc)).cell? ⟨w.heap.size + 1, 0, none⟩ = some (.slice qo Q.length qc) := World.cell?_setCell_same _ _ _ r0
      go_wp2
      refine bodyPost_ret (v := .tuple #[.agg #[.slice qo Q.length qc], .int .i64 0]) ?_ rfl ⟨HF.out.1, qo, qc, Q, rfl, HF.out.2.1, HF.out.2.2⟩
      rw [results_cell_tmp rfl]
      go_simp
end
end Go.Proofs.YtkkmeogehapjoaaGreatDoor
