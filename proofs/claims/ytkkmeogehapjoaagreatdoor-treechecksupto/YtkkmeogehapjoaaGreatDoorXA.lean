/- A list of as many equal numbers. Of which node each is a kid. How deep the deepest node stands. -/
import Derived.Test.YtkkmeogehapjoaaGreatDoorTA
import Derived.OwnWalk
import Derived.Laws.CopyRow
import Derived.Laws.CopyOwn
namespace Go.Proofs.YtkkmeogehapjoaaGreatDoor
section
open Go.RowKit Go.Shelf
/-- A block of numbers. -/
def Blk (w : World) (g : Nat) (l : List Int) : Prop := w.heap[g]? = some (.cells (l.map (Value.int .i64)).toArray 3 (0, 0))
theorem Blk.cell {w : World} {g : Nat} {l : List Int} (h : Blk w g l) {j : Nat} {y : Int} (hy : l[j]? = some y) : w.cell? ⟨g, j, none⟩ = some (.int .i64 y) := by
  rw [show w.cell? ⟨g, j, none⟩ = ((l.map (Value.int .i64)).toArray)[j]? from Lib.cell_of_heap h j]
  simp [hy]
theorem Blk.fz {w : World} {g : Nat} {l : List Int} (h : Blk w g l) (j : Nat) : w.frozen? ⟨g, j, none⟩ = false := Lib.frozen_of_heap h j
theorem Blk.set {w : World} {g : Nat} {l : List Int} (h : Blk w g l) (j : Nat) (y : Int) : Blk (w.setCell ⟨g, j, none⟩ (.int .i64 y)) g (l.set j y) := by
  unfold Blk at *
  have hlt : g < w.heap.size := (Array.getElem?_eq_some_iff.1 h).1
  simp only [World.setCell, Array.getElem?_modify, if_true, h, Option.map_some]
  congr 2
  simp [List.map_set]
theorem info3 : (Tryz.prog.info? 3).map (fun i => (i.zero, i.size, i.bytes)) = some (some (.int .i64 0), 1, 8) := by kernel_rfl
theorem made_rep (n : Nat) : (madeCells (Value.int .i64 0).cells (n * 1)).toList = (List.replicate n (0 : Int)).map (Value.int .i64) := by
  apply List.ext_getElem?
  intro j
  simp [madeCells, Value.cells, List.getElem?_replicate]
  by_cases h : j < n
  · simp [h, Nat.mod_one]
  · simp [h]
theorem blk_of_own {W : World} {b g n : Nat} {l : List Int} (h : W.ownsRow b 3 1 (.slice (some ⟨g, 0, none⟩) n n) n (l.map (Value.int .i64))) : Blk W g l := by
  obtain ⟨hl, ⟨e, _⟩ | ⟨g', cap, cur, e, _, hh, _, _, hs, ht⟩⟩ := h
  · cases e
  · cases e
    unfold Blk
    rw [hh, ← ht, List.take_of_length_le (by simp; omega)]
theorem copy_blk (W : World) (g o L cx sb so ns sc : Nat) (l xs : List Int) (hb : Blk W g l) (hx : xs.length = Nat.min ns L) (hsrc : ∀ j y, xs[j]? = some y → W.cell? ⟨sb, so + j, none⟩ = some (.int .i64 y)) (hfit : o + xs.length ≤ l.length) :
    (Builtin.copy_ #[42, 42] 3 #[.slice (some ⟨g, o, none⟩) L cx, .slice (some ⟨sb, so, none⟩) ns sc]).run Tryz.prog W = .ok (.int .i64 (xs.length : Int)) (W.setRow g ((l.take o ++ xs ++ l.drop (o + xs.length)).map (Value.int .i64)).toArray) := by
  have hr : (xs.map (Value.int .i64)).length = xs.length := List.length_map _
  have t := run_copy_row Tryz.prog W 42 42 3 3 g o L cx ⟨sb, so, none⟩ ns sc (l.map (Value.int .i64)).toArray 3 (xs.map (Value.int .i64)) Tryz.underlying42 (by kernel_rfl) hb (by rw [hr]; exact hx) (fun j v hj => by
    rw [List.getElem?_map] at hj
    obtain ⟨y, hy, rfl⟩ := Option.map_eq_some_iff.1 hj
    rw [Addr.add_lit]
    exact hsrc j y hy) (by simp; omega) (fun v hv => by obtain ⟨x, _, rfl⟩ := List.mem_map.1 hv; rfl)
  rw [hr] at t
  rw [t]
  simp [List.map_take, List.map_drop, goInt]
theorem Blk.row {W : World} {g : Nat} {l : List Int} (h : Blk W g l) (m : List Int) : Blk (W.setRow g (m.map (Value.int .i64)).toArray) g m := setRow_heap W g _ _ 3 (0, 0) h
set_option maxRecDepth 100000 in
set_option maxHeartbeats 4000000 in
theorem repeat64 (g n : Nat) (w : World) (h0 : 1 ≤ n) (h1 : n ≤ 20000) (hc : w.cell? ⟨g, 0, none⟩ = some (.int .i64 (-1))) : Calls Tryz.prog 64 #[.slice (some ⟨g, 0, none⟩) 1 1, .int .i64 n] w fun e w' => e = .returned (.slice (some ⟨w.heap.size, 0, none⟩) n n) ∧ Below w.heap.size w w' ∧ Blk w' w.heap.size (List.replicate n (-1)) := by
  obtain ⟨i0, hi, hz0, hz1, hz2⟩ := info_parts info3
  have HI : Hid (Tryz.prog.info? 3 = some i0 ∧ i0.zero = some (.int .i64 0) ∧ i0.size = 1 ∧ i0.bytes = 8) := ⟨hi, hz0, hz1, hz2⟩
  clear hi hz0 hz1 hz2
  have HM : Hid (∀ W, Calls Tryz.prog 91 #[.int .u64 (1 : Nat), .int .u64 n] W fun e w' => e = .returned (.tuple #[.int .u64 ((1 * n / 18446744073709551616 : Nat) : Int), .int .u64 ((1 * n % 18446744073709551616 : Nat) : Int)]) ∧ w' = W) := fun W => Tryz.bits_Mul 1 n (by omega) (by omega) W
  rw [show 1 * n / 18446744073709551616 = 0 by omega, show 1 * n % 18446744073709551616 = n by omega] at HM
  have c3 := cells3'
  go_enter Tryz.func64, Tryz.ntmps64
  go_wp2_with (first | (go_at_call 91; refine (HM.out _).mono ?_; rintro e w' ⟨rfl, hw⟩; subst w') | (at_make; refine wpList_make_full _ rfl _ _ 42 rfl w.heap.size 3 i0 (.int .i64 0) 1 Tryz.underlying42 HI.out.1 HI.out.2.1 HI.out.2.2.1 .i64 .i64 n n n rfl rfl rfl rfl (by rw [HI.out.2.2.2]; omega) (by unfold maxLen; omega) (Nat.le_refl _) ?_; intro w2 hown2 hgrow2; have HO2 : Hid _ := (show w2.ownsRow w.heap.size 3 1 (.slice (some ⟨w.heap.size, 0, none⟩) n n) n (madeCells (Value.int .i64 0).cells (n * 1)).toList from hown2); have HG2 : Hid _ := (show w.grownBy w2 none from hgrow2); clear hown2 hgrow2) | fail)
  have hB2 : Below w.heap.size w w2 := (Below.refl _ w).grown HG2.out (Nat.le_refl _) (fun k hk => by cases hk)
  have b2 : Blk w2 w.heap.size (List.replicate n 0) := blk_of_own (by have t := HO2.out; rw [made_rep] at t; exact t)
  have hg : g < w.heap.size := World.block_lt_of_cell? _ _ hc
  have hc2 : w2.cell? ⟨g, 0, none⟩ = some (.int .i64 (-1)) := by rw [(bcell hB2).1 g 0 hg]; exact hc
  have hcp := copy_blk w2 w.heap.size 0 n n g 0 1 1 (List.replicate n 0) [-1] b2 (by simp [Nat.min_def]; omega) (fun j y hy => by
    match j, hy with
    | 0, hy => simp at hy; subst hy; exact hc2
    | j + 1, hy => simp at hy) (by simp; omega)
  simp only [List.length_singleton] at hcp
  obtain ⟨w3, hw3⟩ : ∃ W, W = w2.setRow w.heap.size (((List.replicate n (0 : Int)).take 0 ++ [-1] ++ (List.replicate n (0 : Int)).drop (0 + 1)).map (Value.int .i64)).toArray := ⟨_, rfl⟩
  rw [← hw3] at hcp
  have R3 : Hid (Below w.heap.size w w3 ∧ Blk w3 w.heap.size (List.replicate 1 (-1) ++ List.replicate (n - 1) 0)) := by
    rw [hw3]
    refine ⟨below_setRow hB2 (Nat.le_refl _) _, ?_⟩
    have t := b2.row ((List.replicate n (0 : Int)).take 0 ++ [-1] ++ (List.replicate n (0 : Int)).drop (0 + 1))
    simpa using t
  clear hw3 hB2 b2 hc2 HO2 HG2
  rw [hcp]
  simp only [Result.andThen]
  rw [Oper.upon_value]
  go_wp2
  go_loopw [8] (fun i wx => ∃ k : Nat, 1 ≤ k ∧ k ≤ n ∧ i = .int .i64 k ∧ Below w.heap.size w wx ∧ Blk wx w.heap.size (List.replicate k (-1) ++ List.replicate (n - k) 0)) (fun i _ => n - (intOf i).toNat)
  case atStart => exact ⟨1, Nat.le_refl _, h0, rfl, R3.out.1, R3.out.2⟩
  case round =>
    obtain ⟨k, k1, k2, rfl, hB, hK⟩ := hrel
    have HB : Hid (Below w.heap.size w wr ∧ Blk wr w.heap.size (List.replicate k (-1) ++ List.replicate (n - k) 0)) := ⟨hB, hK⟩
    clear hB
    by_cases hlt : k < n
    · obtain ⟨c, hc'⟩ : ∃ c, c = Nat.min k (n - k) := ⟨_, rfl⟩
      have hc1 : c ≤ k ∧ c ≤ n - k ∧ 1 ≤ c := by simp [Nat.min_def] at hc'; split at hc' <;> omega
      have hK : Blk wr.drew w.heap.size (List.replicate k (-1) ++ List.replicate (n - k) 0) := hK
      have hcp := copy_blk wr.drew w.heap.size k (n - k) (n - k) w.heap.size 0 k n (List.replicate k (-1) ++ List.replicate (n - k) 0) (List.replicate c (-1)) hK (by simp [hc']) (fun j y hy => by
        obtain ⟨hj, hy⟩ := List.getElem?_eq_some_iff.1 hy
        simp at hj hy
        subst hy
        rw [Nat.zero_add]
        exact hK.cell (by rw [List.getElem?_append_left (by simp; omega)]; simp [List.getElem?_replicate]; omega)) (by simp; omega)
      simp only [List.length_replicate] at hcp
      obtain ⟨w4, hw4⟩ : ∃ W, W = wr.drew.setRow w.heap.size (((List.replicate k (-1) ++ List.replicate (n - k) 0).take k ++ List.replicate c (-1) ++ (List.replicate k (-1) ++ List.replicate (n - k) 0).drop (k + c)).map (Value.int .i64)).toArray := ⟨_, rfl⟩
      rw [← hw4] at hcp
      have R4 : Hid (Below w.heap.size w w4 ∧ Blk w4 w.heap.size (List.replicate (k + c) (-1) ++ List.replicate (n - (k + c)) 0)) := by
        rw [hw4]
        refine ⟨below_setRow HB.out.1.drew (Nat.le_refl _) _, ?_⟩
        have t := hK.row ((List.replicate k (-1) ++ List.replicate (n - k) 0).take k ++ List.replicate c (-1) ++ (List.replicate k (-1) ++ List.replicate (n - k) 0).drop (k + c))
        have e : (List.replicate k (-1) ++ List.replicate (n - k) 0).take k ++ List.replicate c (-1) ++ (List.replicate k (-1) ++ List.replicate (n - k) (0 : Int)).drop (k + c) = List.replicate (k + c) (-1) ++ List.replicate (n - (k + c)) 0 := by
          rw [List.take_append_of_le_length (by simp), List.take_of_length_le (by simp), List.drop_append, List.drop_eq_nil_of_le (by simp), List.nil_append, List.drop_replicate, ← List.replicate_append_replicate]
          congr 2
          simp
          omega
        rw [e] at t ⊢
        exact t
      clear hw4 hK hc'
      have hd1 : ¬ n = k := by omega
      have hkI : (k : Int) ≤ (n : Int) := by omega
      have hwa : IntKind.i64.wrap ((k : Int) + (c : Int)) = (k : Int) + (c : Int) := by simp [IntKind.wrap, IntKind.bits, IntKind.signed]; omega
      go_wp2
      go_region
      all_goals go_wp2
      all_goals exact ⟨⟨k + c, by omega, by omega, by go_num, R4.out.1, R4.out.2⟩, by simp [intOf]; omega⟩
    · obtain rfl : k = n := by omega
      have hb := HB.out.2
      rw [Nat.sub_self, List.replicate_zero, List.append_nil] at hb
      have HB' : Hid (Blk wr w.heap.size (List.replicate k (-1))) := hb
      clear hb hK
      go_wp2
      go_ret
      exact ⟨rfl, HB.out.1, HB'.out⟩
end
section
open Go.RowKit Go.Shelf
def pKids (k : Nat) : List Int → List Int → Option (List Int)
  | [], p => some p
  | y :: r, p => if y < 0 ∨ (k : Int) ≤ y ∨ 0 ≤ p.getD y.toNat 0 then none else pKids k r (p.set y.toNat k)
def pAll : Nat → List Nd → List Int → Option (List Int)
  | _, [], p => some p
  | k, x :: r, p => match pKids k x.ks p with
    | none => none
    | some p' => pAll (k + 1) r p'
def parR (l : List Nd) : Option (List Int) := pAll 0 l (List.replicate l.length (-1))
theorem Blk.alloc {w : World} {g : Nat} {l : List Int} (h : Blk w g l) (o : Obj) : Blk (w.alloc o) g l := by
  have hlt : g < w.heap.size := (Array.getElem?_eq_some_iff.1 h).1
  unfold Blk
  rw [Lib.alloc_old w o g hlt]
  exact h
theorem Blk.below {w w' : World} {g : Nat} {l : List Int} (h : Blk w g l) (hb : Below w.heap.size w w') : Blk w' g l := by
  unfold Blk
  rw [hb.block g (Array.getElem?_eq_some_iff.1 h).1]
  exact h
/-- What is told of the nodes' parents. -/
def parQ (l : List Nd) (w : World) (e : Ending) (w' : World) : Prop := Below w.heap.size w w' ∧ match parR l with
  | none => e = .returned (.tuple #[.slice none 0 0, .bool false])
  | some p => ∃ g, w.heap.size ≤ g ∧ p.length = l.length ∧ Blk w' g p ∧ e = .returned (.tuple #[.slice (some ⟨g, 0, none⟩) l.length l.length, .bool (!((p.take (l.length - 1)).contains (-1)))])
set_option maxRecDepth 100000 in
set_option maxHeartbeats 4000000 in
theorem parents41 (l : List Nd) (ao : Option Addr) (c : Nat) (w : World) (hl : NdA w ao c l) (h0 : 1 ≤ l.length) (h1 : l.length ≤ 20000) : Calls Tryz.prog 41 #[.slice ao l.length c] w fun e w' => parQ l w e w' := by
  have HL : Hid (NdA w ao c l) := hl
  obtain ⟨n, hn⟩ : ∃ n, n = l.length := ⟨_, rfl⟩
  rw [← hn] at h0 h1 ⊢
  have HN : Hid (n = l.length) := hn
  have hnc : n ≤ c := by rw [hn]; exact hl.1
  have hc2 : c ≤ 9223372036854775807 := hl.2.1
  have c53 := cells53
  have c3 := cells3'
  clear hl hn
  have H64 : Hid (∀ g W, W.cell? ⟨g, 0, none⟩ = some (.int .i64 (-1)) → Calls Tryz.prog 64 #[.slice (some ⟨g, 0, none⟩) 1 1, .int .i64 n] W fun e w' => e = .returned (.slice (some ⟨W.heap.size, 0, none⟩) n n) ∧ Below W.heap.size W w' ∧ Blk w' W.heap.size (List.replicate n (-1))) := fun g W h => repeat64 g n W h0 h1 h
  go_enter Tryz.func41, Tryz.ntmps41
  go_wp2_with fail
  refine (H64.out _ _ (by simp)).mono ?_
  rintro e w1 ⟨rfl, hb, hk⟩
  have hb1 : Below w.heap.size w w1 := (below_cells w _ _).trans (hb.mono (by simp))
  generalize hG : (w.alloc (.cells #[.int .i64 (-1)] 3)).heap.size = G at *
  have hGw : w.heap.size ≤ G := by rw [← hG]; simp
  have HR0 : Hid (Below w.heap.size w w1 ∧ Blk w1 G (List.replicate n (-1)) ∧ (List.replicate n (-1 : Int)).length = n ∧ parR l = pAll 0 (l.drop 0) (List.replicate n (-1))) := ⟨hb1, hk, by simp, by unfold parR; rw [← HN.out]; rfl⟩
  clear hb hk hb1 hG H64
  go_wp2
  go_loopw [15] (fun i wx => ∃ (k : Nat) (p : List Int), k ≤ n ∧ i = .int .i64 k ∧ Below w.heap.size w wx ∧ Blk wx G p ∧ p.length = n ∧ parR l = pAll k (l.drop k) p) (fun i _ => n - (intOf i).toNat)
  case atStart => exact ⟨0, _, Nat.zero_le _, rfl, HR0.out.1, HR0.out.2.1, HR0.out.2.2.1, HR0.out.2.2.2⟩
  case round =>
    obtain ⟨k, p, hk, rfl, hB, hP, hpl, hR⟩ := hrel
    by_cases hlt : k < n
    · obtain ⟨x, hx⟩ : ∃ x, l[k]? = some x := ⟨_, List.getElem?_eq_getElem (by have := HN.out; omega)⟩
      have hxo := HL.out.2.2.1 x (List.mem_of_getElem? hx)
      obtain ⟨gn, on, rfl, hnd⟩ := HL.out.2.2.2 (by have := HN.out; omega)
      obtain ⟨y0, y1, y2, y3, y4, y5⟩ := nd_cells hnd hx
      have hg : gn < w.heap.size := World.block_lt_of_cell? _ _ y0
      have a0 := ((bcell hB).1 gn (on + k * 6) hg).trans y0
      have a1 := ((bcell hB).1 gn (on + k * 6 + 1) hg).trans y1
      have a2 := ((bcell hB).1 gn (on + k * 6 + 2) hg).trans y2
      have a3 := ((bcell hB).1 gn (on + k * 6 + 3) hg).trans y3
      have a4 := ((bcell hB).1 gn (on + k * 6 + 4) hg).trans y4
      have a5 := ((bcell hB).1 gn (on + k * 6 + 5) hg).trans y5
      have hdk : l.drop k = x :: l.drop (k + 1) := by
        obtain ⟨hk', rfl⟩ := List.getElem?_eq_some_iff.1 hx
        exact List.drop_eq_getElem_cons hk'
      rw [hdk] at hR
      have HI : Hid (parR l = match pKids k (x.ks.drop 0) p with
        | none => none
        | some p' => pAll (k + 1) (l.drop (k + 1)) p') := hR
      have HK : Hid (∀ W, Below w.heap.size w W → IsA W x.ka x.kc x.ks) := fun W hW => hxo.ks.below hW
      have HBP : Hid (Below w.heap.size w wr ∧ Blk wr G p ∧ p.length = n) := ⟨hB, hP, hpl⟩
      have hkc : x.ks.length ≤ x.kc := hxo.ks.1
      have hkc2 : x.kc ≤ 9223372036854775807 := hxo.ks.2.1
      clear hnd hx hxo y0 y1 y2 y3 y4 y5 hdk hR hB hP hpl HR0
      obtain ⟨K, T, V, ka, kc, ks, F, E⟩ := x
      simp only at *
      generalize hm : ks.length = m at *
      have HM : Hid (ks.length = m) := hm
      clear hm
      go_wp2
      go_loopw [8, 23] (fun _ i wx => ∃ (j : Nat) (q : List Int), j ≤ m ∧ i = .int .i64 j ∧ Below w.heap.size w wx ∧ Blk wx G q ∧ q.length = n ∧ parR l = match pKids k (ks.drop j) q with
        | none => none
        | some p' => pAll (k + 1) (l.drop (k + 1)) p') (fun _ i _ => m - (intOf i).toNat)
      case atStart => exact ⟨0, p, Nat.zero_le _, rfl, HBP.out.1.alloc HBP.out.1.size _, HBP.out.2.1.alloc _, HBP.out.2.2, HI.out⟩
      case round =>
        obtain ⟨j, q, hj, rfl, hB, hP, hql, hR⟩ := hrel
        clear HI HBP
        by_cases hjm : j < m
        · obtain ⟨y, hy⟩ : ∃ y, ks[j]? = some y := ⟨_, List.getElem?_eq_getElem (by have := HM.out; omega)⟩
          obtain ⟨gk, ok, rfl, hkc'⟩ := (HK.out _ hB).2.2 (by have := HM.out; omega)
          have b0 := hkc' j y hy
          have hdj : ks.drop j = y :: ks.drop (j + 1) := by
            obtain ⟨hk', rfl⟩ := List.getElem?_eq_some_iff.1 hy
            exact List.drop_eq_getElem_cons hk'
          rw [hdj] at hR
          have HPK : Hid (Below w.heap.size w wr ∧ Blk wr G q ∧ q.length = n) := ⟨hB, hP, hql⟩
          have HY : Hid (parR l = match (if y < 0 ∨ (k : Int) ≤ y ∨ 0 ≤ q.getD y.toNat 0 then none else pKids k (ks.drop (j + 1)) (q.set y.toNat k)) with
            | none => none
            | some p' => pAll (k + 1) (l.drop (k + 1)) p') := hR
          clear hkc' hy hdj hR hB hP hql
          by_cases hy0 : y < 0
          · rw [if_pos (.inl hy0)] at HY
            go_wp2
            go_ret2
            exact ⟨HPK.out.1, by rw [HY.out]; rfl⟩
          · by_cases hyk : (k : Int) ≤ y
            · rw [if_pos (.inr (.inl hyk))] at HY
              go_wp2
              go_ret2
              exact ⟨HPK.out.1, by rw [HY.out]; rfl⟩
            · obtain ⟨z, rfl⟩ : ∃ z : Nat, y = z := ⟨y.toNat, by omega⟩
              have hzn : z < n := by omega
              obtain ⟨u, hu⟩ : ∃ u, q[z]? = some u := ⟨_, List.getElem?_eq_getElem (by have := HPK.out.2.2; omega)⟩
              have d0 := HPK.out.2.1.cell hu
              have f0 := HPK.out.2.1.fz z
              have hgd : q.getD z 0 = u := by simp [List.getD, hu]
              rw [Int.toNat_natCast, hgd] at HY
              have hkz : ¬ (k : Int) ≤ (z : Int) := hyk
              clear hu hgd
              by_cases hu0 : 0 ≤ u
              · rw [if_pos (.inr (.inr hu0))] at HY
                go_wp2
                go_ret2
                exact ⟨HPK.out.1, by rw [HY.out]; rfl⟩
              · rw [if_neg (by omega)] at HY
                have HS : Hid (Below w.heap.size w (wr.setCell ⟨G, z, none⟩ (.int .i64 k)) ∧ Blk (wr.setCell ⟨G, z, none⟩ (.int .i64 k)) G (q.set z k) ∧ (q.set z (k : Int)).length = n) := ⟨HPK.out.1.setCell (p := ⟨G, z, none⟩) hGw _, HPK.out.2.1.set z k, by rw [List.length_set]; exact HPK.out.2.2⟩
                go_wp2
                exact ⟨⟨j + 1, q.set z k, by omega, by go_num, HS.out.1, HS.out.2.1, HS.out.2.2, HY.out⟩, by simp [intOf]; omega⟩
        · obtain rfl : j = m := by omega
          have hdj : ks.drop j = [] := List.drop_eq_nil_of_le (by have := HM.out; omega)
          rw [hdj] at hR
          have HE : Hid (Below w.heap.size w wr ∧ Blk wr G q ∧ q.length = n ∧ parR l = pAll (k + 1) (l.drop (k + 1)) q) := ⟨hB, hP, hql, hR⟩
          clear hdj hR hB hP hql
          go_wp2
          exact ⟨⟨k + 1, q, by omega, by go_num, HE.out⟩, by simp [intOf]; omega⟩
    · obtain rfl : k = n := by omega
      have hdk : l.drop k = [] := List.drop_eq_nil_of_le (by have := HN.out; omega)
      rw [hdk] at hR
      have HE : Hid (Below w.heap.size w wr ∧ Blk wr G p ∧ p.length = k ∧ parR l = some p) := ⟨hB, hP, hpl, hR⟩
      clear hdk hR hB hP hpl HR0
      have HC : Hid (Calls Tryz.prog 65 #[.slice (some ⟨G, 0, none⟩) (k - 1) k, .int .i64 (-1)] wr fun e w' => e = .returned (.bool ((p.take (k - 1)).contains (-1))) ∧ w' = wr) := Tryz.slices_Contains_int G 0 (k - 1) k p (-1) wr (by have := HE.out.2.2.1; omega) (by omega) (fun j hj => by
        rw [Nat.zero_add]
        exact HE.out.2.1.cell (by simp [List.getD, hj]))
      have HF : Hid (∀ e w', e = .returned (.tuple #[.slice (some ⟨G, 0, none⟩) k k, .bool (!((p.take (k - 1)).contains (-1)))]) → Below w.heap.size w w' → Blk w' G p → parQ l w e w') := fun e w' he hb hk => by
        refine ⟨hb, ?_⟩
        rw [HE.out.2.2.2]
        exact ⟨G, hGw, by rw [HE.out.2.2.1]; exact HN.out, hk, by rw [← HN.out]; exact he⟩
      have HBF : Hid (Below w.heap.size w wr ∧ Blk wr G p) := ⟨HE.out.1, HE.out.2.1⟩
      clear HE
      generalize (p.take (k - 1)).contains (-1) = R at *
      have hk1 : IntKind.i64.wrap ((k : Int) - 1) = ((k - 1 : Nat) : Int) := by simp [IntKind.wrap, IntKind.bits, IntKind.signed]; omega
      have hk2 : (k : Int) - 1 = ((k - 1 : Nat) : Int) := by omega
      go_wp2_with fail
      refine HC.out.mono ?_
      rintro e w' ⟨rfl, hw⟩
      subst w'
      go_wp2
      go_ret2
      exact HF.out _ _ rfl HBF.out.1 HBF.out.2
end
section
open Go.RowKit Go.Shelf
def dStep (p : List Int) (k : Nat) (d : List Int) : List Int := d.set k (d.getD (p.getD k 0).toNat 0 + 1)
def dAll (p : List Int) : Nat → List Int → List Int
  | 0, d => d
  | k + 1, d => dAll p k (dStep p k d)
/-- Each node's depth. -/
def depR (p : List Int) : List Int := dAll p (p.length - 1) (List.replicate p.length 0)
/-- Each node but the last has a parent behind it. -/
def Ups (p : List Int) : Prop := ∀ i, i + 1 < p.length → (i : Int) < p.getD i 0 ∧ p.getD i 0 < p.length
set_option maxRecDepth 100000 in
set_option maxHeartbeats 4000000 in
theorem depth43 (p : List Int) (G n : Nat) (w : World) (hp : Blk w G p) (hn : p.length = n) (h0 : 1 ≤ n) (h1 : n ≤ 20000) (hu : Ups p) : Calls Tryz.prog 43 #[.slice (some ⟨G, 0, none⟩) n n] w fun e w' => e = .returned (.int .i64 (Lib.maxOf (depR p))) ∧ Below w.heap.size w w' := by
  obtain ⟨i0, hi, hz0, hz1, hz2⟩ := info_parts info3
  have HI : Hid (Tryz.prog.info? 3 = some i0 ∧ i0.zero = some (.int .i64 0) ∧ i0.size = 1 ∧ i0.bytes = 8) := ⟨hi, hz0, hz1, hz2⟩
  clear hi hz0 hz1 hz2
  have HP : Hid (Blk w G p ∧ p.length = n ∧ Ups p) := ⟨hp, hn, hu⟩
  have hGw : G < w.heap.size := (Array.getElem?_eq_some_iff.1 hp).1
  have c3 := cells3'
  generalize hR : Lib.maxOf (depR p) = R at *
  have HR : Hid (Lib.maxOf (depR p) = R) := hR
  clear hp hn hu hR
  go_enter Tryz.func43, Tryz.ntmps43
  go_wp2_with (first | (at_make; refine wpList_make_full _ rfl _ _ 42 rfl w.heap.size 3 i0 (.int .i64 0) 1 Tryz.underlying42 HI.out.1 HI.out.2.1 HI.out.2.2.1 .i64 .i64 n n n rfl rfl rfl rfl (by rw [HI.out.2.2.2]; omega) (by unfold maxLen; omega) (Nat.le_refl _) ?_; intro w2 hown2 hgrow2; have HO2 : Hid _ := (show w2.ownsRow w.heap.size 3 1 (.slice (some ⟨w.heap.size, 0, none⟩) n n) n (madeCells (Value.int .i64 0).cells (n * 1)).toList from hown2); have HG2 : Hid _ := (show w.grownBy w2 none from hgrow2); clear hown2 hgrow2) | fail)
  have hB2 : Below w.heap.size w w2 := (Below.refl _ w).grown HG2.out (Nat.le_refl _) (fun k hk => by cases hk)
  have b2 : Blk w2 w.heap.size (List.replicate n 0) := blk_of_own (by have t := HO2.out; rw [made_rep] at t; exact t)
  have HR0 : Hid (Below w.heap.size w w2 ∧ Blk w2 w.heap.size (List.replicate n 0)) := ⟨hB2, b2⟩
  clear hB2 b2 HO2 HG2
  go_loopw [4] (fun i wx => ∃ (m : Nat) (d : List Int), m + 1 ≤ n ∧ i = .int .i64 ((m : Int) - 1) ∧ Below w.heap.size w wx ∧ Blk wx w.heap.size d ∧ d.length = n ∧ (∀ j, 0 ≤ d.getD j 0 ∧ d.getD j 0 ≤ (n : Int) - 1 - m) ∧ depR p = dAll p m d) (fun i _ => (intOf i + 1).toNat)
  case atStart =>
    refine ⟨n - 1, List.replicate n 0, by omega, by congr 1; omega, HR0.out.1, HR0.out.2, by simp, fun j => ?_, by unfold depR; rw [HP.out.2.1]⟩
    have : (List.replicate n (0 : Int)).getD j 0 = 0 := by
      simp only [List.getD, List.getElem?_replicate]
      split <;> rfl
    rw [this]
    omega
  case round =>
    obtain ⟨m, d, hm, rfl, hB, hD, hdl, hbd, hR⟩ := hrel
    clear HR0
    by_cases hm0 : 0 < m
    · obtain ⟨k, rfl⟩ : ∃ k, m = k + 1 := ⟨m - 1, by omega⟩
      have hkk : ((k + 1 : Nat) : Int) - 1 = (k : Int) := by omega
      rw [hkk]
      obtain ⟨hy1, hy2⟩ := HP.out.2.2 k (by rw [HP.out.2.1]; omega)
      rw [HP.out.2.1] at hy2
      obtain ⟨y, hy⟩ : ∃ y : Nat, p.getD k 0 = y := ⟨(p.getD k 0).toNat, by omega⟩
      rw [hy] at hy1 hy2
      have hpk : p[k]? = some (y : Int) := by
        have : k < p.length := by rw [HP.out.2.1]; omega
        rw [List.getElem?_eq_getElem this]
        simp [List.getD, this] at hy
        rw [hy]
      have hPw : Blk wr G p := by
        unfold Blk
        rw [hB.block G hGw]
        exact HP.out.1
      have a0 := hPw.cell hpk
      obtain ⟨u, hu⟩ : ∃ u, d[y]? = some u := ⟨_, List.getElem?_eq_getElem (by omega)⟩
      have a1 := hD.cell hu
      obtain ⟨u', hu'⟩ : ∃ u, d[k]? = some u := ⟨_, List.getElem?_eq_getElem (by omega)⟩
      have a2 := hD.cell hu'
      have f2 := hD.fz k
      have hgd : d.getD y 0 = u := by simp [List.getD, hu]
      have hub := hbd y
      rw [hgd] at hub
      have hne : ¬ w.heap.size = G := by omega
      have hwa : IntKind.i64.wrap (u + 1) = u + 1 := by simp [IntKind.wrap, IntKind.bits, IntKind.signed]; omega
      have HS : Hid (Below w.heap.size w (wr.setCell ⟨w.heap.size, k, none⟩ (.int .i64 (u + 1))) ∧ Blk (wr.setCell ⟨w.heap.size, k, none⟩ (.int .i64 (u + 1))) w.heap.size (d.set k (u + 1)) ∧ (d.set k (u + 1)).length = n ∧ (∀ j, 0 ≤ (d.set k (u + 1)).getD j 0 ∧ (d.set k (u + 1)).getD j 0 ≤ (n : Int) - 1 - k) ∧ depR p = dAll p k (d.set k (u + 1))) := by
        refine ⟨hB.setCell (p := ⟨w.heap.size, k, none⟩) (Nat.le_refl _) _, hD.set k _, by rw [List.length_set]; exact hdl, fun j => ?_, ?_⟩
        · by_cases hjk : j = k
          · subst hjk
            have e : (d.set j (u + 1)).getD j 0 = u + 1 := by simp [List.getD, show j < d.length by omega]
            rw [e]
            omega
          · have e : (d.set k (u + 1)).getD j 0 = d.getD j 0 := by simp [List.getD, Ne.symm hjk]
            rw [e]
            have := hbd j
            omega
        · rw [hR]
          show dAll p k (dStep p k d) = _
          unfold dStep
          rw [hy, Int.toNat_natCast, hgd]
      have hyI : (y : Int) < (n : Int) := hy2
      have hkI : (k : Int) < (n : Int) := by omega
      have hkn : k < n := by omega
      have hyn : y < n := by omega
      clear hpk hPw hu hu' hgd hbd hR hD hB hdl hy
      go_wp2
      exact ⟨⟨k, d.set k (u + 1), by omega, by go_num, HS.out⟩, by simp [intOf]⟩
    · obtain rfl : m = 0 := by omega
      have hmx : Lib.maxOf (d.take n) = R := by rw [List.take_of_length_le (by omega), ← HR.out, hR]; rfl
      have HC : Hid (Calls Tryz.prog 66 #[.slice (some ⟨w.heap.size, 0, none⟩) n n] wr fun e w' => e = .returned (.int .i64 R) ∧ w' = wr) := by
        have t := Tryz.slices_Max_int w.heap.size 0 n n d wr (by omega) (by omega) (by omega) (fun j hj => by
          rw [Nat.zero_add]
          exact hD.cell (by simp [List.getD, hj]))
        rw [hmx] at t
        exact t
      have HB : Hid (Below w.heap.size w wr) := hB
      clear hB hD hdl hbd hR hmx
      go_wp2_with fail
      refine HC.out.mono ?_
      rintro e w' ⟨rfl, hw⟩
      subst w'
      go_wp2
      go_ret
      exact ⟨rfl, HB.out⟩
end
end Go.Proofs.YtkkmeogehapjoaaGreatDoor
