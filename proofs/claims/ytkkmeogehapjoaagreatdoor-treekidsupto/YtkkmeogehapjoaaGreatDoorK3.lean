/- The part below a node: plainly; whether there is such a node. -/
import Derived.Test.YtkkmeogehapjoaaGreatDoorK2
import Derived.Test.YtkkmeogehapjoaaGreatDoorSA
namespace Go.Proofs.YtkkmeogehapjoaaGreatDoor
open Go.RowKit Go.Shelf
/-- A node without its kids' place in memory. -/
def pu (x : Nd) : Nd := ⟨x.k, x.nm, x.v, none, 0, x.ks, x.fr, x.en⟩
def mapK (P : List Int) (ks : List Int) : List Int := ks.map fun y => P.getD y.toNat 0
/-- The nodes that are taken, from node k on: places of the nodes in the part, the part. -/
def sAll (bs : List Bool) : Nat → List Nd → List Int → List Nd → List Nd
  | _, [], _, Q => Q
  | k, x :: r, P, Q => if bs.getD k false = true then sAll bs (k + 1) r (P.set k (Q.length : Int)) (Q ++ [⟨x.k, x.nm, x.v, none, 0, mapK P x.ks, x.fr, x.en⟩]) else sAll bs (k + 1) r P Q
/-- The part below a node. -/
def subR (l : List Nd) (n : Nat) : List Nd := sAll (blwR l n) 0 (l.take (n + 1)) (List.replicate (n + 1) 0) []
def cnE (l : List Nd) (n : Int) : Int := if rightB l = true then (if n < 0 ∨ (l.length : Int) ≤ n then 9 else 0) else 3
set_option maxRecDepth 100000 in
set_option maxHeartbeats 4000000 in
theorem check34 (l : List Nd) (ao : Option Addr) (c : Nat) (n : Int) (w : World) (hT : Tm w) (hl : NdA w ao c l) : Calls Tryz.prog 34 #[.agg #[.slice ao l.length c], .int .i64 n] w fun e w' => e = .returned (.int .i64 (cnE l n)) ∧ Below w.heap.size w w' := by
  have H11 : Hid (∀ W, Below w.heap.size w W → Calls Tryz.prog 11 #[.agg #[.slice ao l.length c]] W fun e w' => e = .returned (.int .i64 (if rightB l = true then 0 else 3)) ∧ Below W.heap.size W w') := fun W hW => check11 l ao c W (hT.below hW) (hl.below hW)
  unfold cnE
  clear hT hl
  generalize l.length = m at *
  generalize rightB l = rb at *
  cases rb
  · rw [if_neg (by simp)] at H11 ⊢
    go_enter Tryz.func34, Tryz.ntmps34
    go_wp2_with fail
    refine (H11.out _ (below_cells _ _ _)).mono ?_
    rintro e w1 ⟨rfl, hb⟩
    have HB1 : Hid (Below w.heap.size w w1) := (below_cells w _ _).trans (hb.mono (by simp))
    clear hb H11
    go_wp2
    go_ret
    exact ⟨rfl, HB1.out⟩
  · rw [if_pos rfl] at H11 ⊢
    by_cases h0 : n < 0
    · rw [if_pos (.inl h0)]
      go_enter Tryz.func34, Tryz.ntmps34
      go_wp2_with fail
      refine (H11.out _ (below_cells _ _ _)).mono ?_
      rintro e w1 ⟨rfl, hb⟩
      have HB1 : Hid (Below w.heap.size w w1) := (below_cells w _ _).trans (hb.mono (by simp))
      have d0 := (bcell hb).1 w.heap.size 0 (by simp)
      simp at d0
      clear hb H11
      go_wp2
      go_ret
      exact ⟨rfl, HB1.out⟩
    · by_cases h1 : (m : Int) ≤ n
      · rw [if_pos (.inr h1)]
        go_enter Tryz.func34, Tryz.ntmps34
        go_wp2_with fail
        refine (H11.out _ (below_cells _ _ _)).mono ?_
        rintro e w1 ⟨rfl, hb⟩
        have HB1 : Hid (Below w.heap.size w w1) := (below_cells w _ _).trans (hb.mono (by simp))
        have d0 := (bcell hb).1 w.heap.size 0 (by simp)
        simp at d0
        clear hb H11
        go_wp2
        go_ret
        exact ⟨rfl, HB1.out⟩
      · rw [if_neg (by omega)]
        go_enter Tryz.func34, Tryz.ntmps34
        go_wp2_with fail
        refine (H11.out _ (below_cells _ _ _)).mono ?_
        rintro e w1 ⟨rfl, hb⟩
        have HB1 : Hid (Below w.heap.size w w1) := (below_cells w _ _).trans (hb.mono (by simp))
        have d0 := (bcell hb).1 w.heap.size 0 (by simp)
        simp at d0
        clear hb H11
        go_wp2
        go_ret
        exact ⟨rfl, HB1.out⟩
end Go.Proofs.YtkkmeogehapjoaaGreatDoor
