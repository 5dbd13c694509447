/- The pages of a memory, copied, by Base, rising (Pages). -/
import Derived.Test.YtndbkkldfinggabU1
import Derived.Test.YtndbkkldfinggabF5
import Derived.Stop.RegionWithIn
namespace Go.Proofs.Ytndbkkldfinggab
open Go.RowKit Go.Shelf
attribute [local go_sem] Oper.semAt_some
theorem info62 : (Try.prog.info? 62).map (fun i => (i.zero, i.size, i.bytes)) = some (some (.agg #[.int .u64 0, .int .i64 0, .slice none 0 0]), 3, 40) := by kernel_rfl
/-- The cells of pages in a row. -/
def rowP (qs : List Pgd) : List Value := qs.flatMap fun y => [.int .u64 y.k, .int .i64 y.p, .slice (some ⟨y.g, 0, none⟩) 4096 y.c]
/-- A page, copied. -/
structure Cop (B : Nat) (bt : Nat → Nat → Int) (W : World) (x y : Pgd) : Prop where
  k : y.k = x.k
  p : y.p = x.p
  low : B ≤ y.g
  cap : 4096 ≤ y.c
  own : ∃ cur, W.heap[y.g]? = some (Obj.cells cur 5 (0, 0))
  data : ∀ j, j < 4096 → W.cell? ⟨y.g, j, none⟩ = some (.int .u8 (bt x.g j))
theorem Cop.kept {B : Nat} {bt : Nat → Nat → Int} {W W' : World} {x y : Pgd} {row : Option Nat} (h : Cop B bt W x y) (hg : W.grownBy W' row) (hr : row ≠ some y.g) : Cop B bt W' x y := by
  obtain ⟨cur, hc⟩ := h.own
  have e := hg.block y.g (lt_of_some hc) (fun e => hr e.symm)
  exact ⟨h.k, h.p, h.low, h.cap, ⟨cur, e.trans hc⟩, fun j hj => by have t := h.data j hj; simp only [World.cell?, e] at t ⊢; exact t⟩
/-- The pages that were asked for so far, copied: in a row of their own. -/
def Cops (B : Nat) (ps : List Pgd) (bt : Nat → Nat → Int) (W : World) (pre : List (Fin ps.length)) (qs : List Pgd) : Prop := qs.length = pre.length ∧ ∀ (i : Nat) (x : Fin ps.length) (y : Pgd), pre[i]? = some x → qs[i]? = some y → Cop B bt W (ordP ps x.1) y
/-- A round of Pages. -/
structure Grew (w W0 W : World) (b r : Nat) (ps : List Pgd) (bt : Nat → Nat → Int) (pre : List (Fin ps.length)) (qs : List Pgd) (xk xp : Int) (xg g cap : Nat) (v' : Value) (W' : World) : Prop where
  keeps : KeepsFrom W0.heap.size W W'
  keep : KeepO b r (w.heap.size + 1) W W'
  box : Boxed W' w.heap.size 22 v'
  boxm : Boxed W' (w.heap.size + 1) 26 (.pointer (some ⟨b, 0, none⟩))
  row : W'.ownsRow w.heap.size 62 3 v' (pre.length + 1) (rowP (qs ++ [⟨xk, xp, g, cap⟩]))
  cops : ∀ x : Fin ps.length, (ordP ps x.1).k = xk → (ordP ps x.1).p = xp → (ordP ps x.1).g = xg → Cops w.heap.size ps bt W' (pre ++ [x]) (qs ++ [⟨xk, xp, g, cap⟩])
  size : W0.heap.size ≤ W'.heap.size
  below : Below w.heap.size w W'
/-- A page copied, and laid behind the row: what a round of Pages does. -/
theorem round35 (b r : Nat) (ps : List Pgd) (bt : Nat → Nat → Int) (w W0 W : World) (HM : Hid (Mm w b r ps bt)) (hlen : ps.length ≤ 65536) (hs0 : W0.heap.size = w.heap.size + 2) (hsz : W0.heap.size ≤ W.heap.size) (pre : List (Fin ps.length)) (qs : List Pgd) (v : Value) (xk xp : Int) (xg xc : Nat) (hxm : ⟨xk, xp, xg, xc⟩ ∈ ps) (hlt : pre.length < ps.length) (hl : qs.length = pre.length)
    (HB : Hid (Below w.heap.size w W)) (HV : Hid (Boxed W w.heap.size 22 v ∧ Boxed W (w.heap.size + 1) 26 (.pointer (some ⟨b, 0, none⟩)))) (HR : Hid (W.ownsRow w.heap.size 62 3 v pre.length (rowP qs))) (HC : Hid (∀ (i : Nat) (x : Fin ps.length) (y : Pgd), pre[i]? = some x → qs[i]? = some y → Cop w.heap.size bt W (ordP ps x.1) y)) :
    Calls Try.prog 29 #[.agg #[.int .u64 xk, .int .i64 xp, .slice (some ⟨xg, 0, none⟩) 4096 xc]] W.drew fun e w' => ∃ g cap v' w5, e = .returned (.agg #[.int .u64 xk, .int .i64 xp, .slice (some ⟨g, 0, none⟩) 4096 cap]) ∧ w'.cell? ⟨w.heap.size, 0, none⟩ = some v ∧ (Builtin.append_ #[22, 22] 22 #[v, .slice (some ⟨w'.heap.size, 0, none⟩) 1 1]).run Try.prog (w'.alloc (.cells #[.int .u64 xk, .int .i64 xp, .slice (some ⟨g, 0, none⟩) 4096 cap] 62)) = .ok v' w5 ∧ w5.cell? ⟨w.heap.size, 0, none⟩ = some v ∧ w5.frozen? ⟨w.heap.size, 0, none⟩ = false ∧ Grew w W0 W b r ps bt pre qs xk xp xg g cap v' (w5.setCell ⟨w.heap.size, 0, none⟩ v') := by
  obtain ⟨i0, hi, hz0, hz1, hz2⟩ := info_parts info62
  have l1 := lt_of_cell HM.out.cell
  have l3 := lt_of_some HM.out.map
  have t := copied29 xk xp xg 0 xc (bt xg) W.drew (fun j hj => by rw [Nat.zero_add]; exact (HM.out.below (HB.out.drew)).data _ hxm j hj)
  refine (t.mono ?_ : Calls _ _ _ _ _)
  rintro e w4 ⟨g, cap, cur, rfl, hg4, hcap, hcur, hcsz, hdat, hb4⟩
  have hz4 : W.heap.size ≤ w4.heap.size := hb4.size
  have HB4 : Below W.heap.size W w4 := ((Below.refl _ W).drew).trans hb4
  have hv4 : Boxed w4 w.heap.size 22 v := HV.out.1.kept (grown_of_below HB4) (by intro e; cases e)
  have hr4 : w4.ownsRow w.heap.size 62 3 v pre.length (rowP qs) := HR.out.kept (grown_of_below HB4) (by rcases HR.out.2 with ⟨rfl, _⟩ | ⟨g, cap, cur, rfl, _⟩ <;> simp [Value.ownBlock])
  obtain ⟨v', w5, hap, hown5, hgr5, -, -⟩ := run_append_own_at (P := Try.prog) (w4.alloc (.cells #[.int .u64 xk, .int .i64 xp, .slice (some ⟨g, 0, none⟩) 4096 cap] 62)) w.heap.size 22 22 62 i0 (.agg #[.int .u64 0, .int .i64 0, .slice none 0 0]) 3 40 Try.underlying22 hi hz0 hz1 hz2 rfl (by decide) v pre.length (rowP qs) (hr4.alloc _) ⟨w4.heap.size, 0, none⟩ 1 1 [.int .u64 xk, .int .i64 xp, .slice (some ⟨g, 0, none⟩) 4096 cap] rfl (by
      intro j u hju
      have := World.alloc_heap_new w4 (.cells #[.int .u64 xk, .int .i64 xp, .slice (some ⟨g, 0, none⟩) 4096 cap] 62)
      rcases j with _ | _ | _ | j <;> simp at hju <;> subst hju <;> rw [Go.WideShapes.add_plain] <;> simp only [World.cell?, this] <;> rfl) (by simp [Value.oneCell']) (by unfold maxLen; omega) (by omega) (by simp; omega)
  obtain ⟨hv1, hv2, hr2, hk2, hb2⟩ := hv4.appended (by decide) hr4 (by omega) (Nat.le_refl _) hown5 hgr5
  refine ⟨g, cap, v', w5, rfl, hv4.cell, hap, hv1.cell, hv1.frozen, ?_⟩
  have hg4' : W.heap.size ≤ g := hg4
  have hgl : g < w4.heap.size := lt_of_some hcur
  have G1 : W.grownBy w4 none := grown_of_below HB4
  have G2 := World.grownBy_alloc w4 (.cells #[.int .u64 xk, .int .i64 xp, .slice (some ⟨g, 0, none⟩) 4096 cap] 62) none
  have G4 := grownBy_setCell' w5 w.heap.size v'
  -- no row's block is a block of another type
  have NB : ∀ (X : World) (k : Nat) (cur : Array Value) (ty : TypeId), X.ownsRow w.heap.size 62 3 v pre.length (rowP qs) → X.heap[k]? = some (Obj.cells cur ty (0, 0)) → ty ≠ 62 → v.ownBlock ≠ some k := by
    intro X k cur ty ho hk hty e
    rcases ho.2 with ⟨rfl, _⟩ | ⟨g', cap', cur', rfl, _, hgb, _⟩
    · cases e
    · cases e; rw [hk] at hgb; cases hgb; exact hty rfl
  have hr4' := hr4.alloc (.cells #[.int .u64 xk, .int .i64 xp, .slice (some ⟨g, 0, none⟩) 4096 cap] 62)
  have rowge : ∀ k, v.ownBlock = some k → w.heap.size ≤ k := by
    intro k e
    rcases hr4.2 with ⟨rfl, _⟩ | ⟨g', cap', cur', rfl, hge, _⟩
    · cases e
    · cases e; exact hge
  have hm4 : Boxed w4 (w.heap.size + 1) 26 (.pointer (some ⟨b, 0, none⟩)) := HV.out.2.kept G1 (by intro e; cases e)
  have hm5 : Boxed w5 (w.heap.size + 1) 26 (.pointer (some ⟨b, 0, none⟩)) := (hm4.alloc _).kept hgr5 (NB _ _ _ 26 hr4' (hm4.alloc _) (by decide)).symm
  have hmF : Boxed (w5.setCell ⟨w.heap.size, 0, none⟩ v') (w.heap.size + 1) 26 (.pointer (some ⟨b, 0, none⟩)) := hm5.kept G4 (by intro e; have := Option.some.inj e; omega)
  have keepC : ∀ (y : Nat) (cur : Array Value) (ty : TypeId), ty ≠ 62 → ty ≠ 22 → w4.heap[y]? = some (Obj.cells cur ty (0, 0)) → (w5.setCell ⟨w.heap.size, 0, none⟩ v').heap[y]? = some (Obj.cells cur ty (0, 0)) := by
    intro y cur ty h1 h2 hy
    have e2 := heap_on hy (.cells #[.int .u64 xk, .int .i64 xp, .slice (some ⟨g, 0, none⟩) 4096 cap] 62)
    have e5 := (hgr5.block y (lt_of_some e2) (fun e => NB _ _ _ ty hr4' e2 h1 e.symm)).trans e2
    refine (G4.block y (lt_of_some e5) (fun e => ?_)).trans e5
    have e' := Option.some.inj e
    subst e'
    have hb5 : w5.heap[w.heap.size]? = some (Obj.cells #[v] 22 (0, 0)) := hv1
    rw [hb5] at e5; cases e5; exact h2 rfl
  have hcur' : ∀ (y : Nat) (cur : Array Value), w4.heap[y]? = some (Obj.cells cur 5 (0, 0)) → ∀ j, (w5.setCell ⟨w.heap.size, 0, none⟩ v').cell? ⟨y, j, none⟩ = w4.cell? ⟨y, j, none⟩ := by
    intro y cur hy j
    simp only [World.cell?, hy, keepC y cur 5 (by decide) (by decide) hy]
  refine ⟨(hk2.from _ |> fun h => (KeepsFrom.of_grownBy G1 (by intro k e; cases e)).trans h), ?_, hv2, hmF, ?_, ?_, ?_, ?_⟩
  · have lbW : b < W.heap.size := by have := HB.out.size; omega
    have lrW : r < W.heap.size := by have := HB.out.size; omega
    have hlow : ∀ k, k < w.heap.size → (w5.setCell ⟨w.heap.size, 0, none⟩ v').heap[k]? = W.heap[k]? := fun k hk => (hb2.block k hk).trans (HB4.block k (by have := HB.out.size; omega))
    refine ⟨Nat.le_trans hz4 hb2.size, hlow r l3, by simp only [World.cell?, hlow b l1], ?_, fun k cur hk => keepC k cur 23 (by decide) (by decide) ((HB4.block k (lt_of_some hk)).trans hk)⟩
    rw [hmF.cell, HV.out.2.cell]
  · have e : rowP (qs ++ [⟨xk, xp, g, cap⟩]) = rowP qs ++ [.int .u64 xk, .int .i64 xp, .slice (some ⟨g, 0, none⟩) 4096 cap] := by simp [rowP, List.flatMap_append]
    rw [e]; exact hr2
  · intro x hk hp hgx
    refine ⟨by simp [hl], fun i x' y h1 h2 => ?_⟩
    by_cases hi' : i < pre.length
    · rw [List.getElem?_append_left hi'] at h1
      rw [List.getElem?_append_left (by omega)] at h2
      have c := HC.out i x' y h1 h2
      obtain ⟨cu, hcu⟩ := c.own
      have hcu4 := (HB4.block y.g (lt_of_some hcu)).trans hcu
      exact ⟨c.k, c.p, c.low, c.cap, ⟨cu, keepC _ _ 5 (by decide) (by decide) hcu4⟩, fun j hj => by rw [hcur' y.g cu hcu4 j, HB4.cell (p := ⟨y.g, j, none⟩) (lt_of_some hcu)]; exact c.data j hj⟩
    · rw [List.getElem?_append_right (by omega)] at h1
      rw [List.getElem?_append_right (by omega)] at h2
      have hi0 : i - pre.length = 0 := by
        by_cases e : i - pre.length = 0
        · exact e
        · rw [List.getElem?_eq_none (by simp; omega)] at h1; cases h1
      rw [hi0] at h1
      rw [hl, hi0] at h2
      simp at h1 h2
      subst h1
      subst h2
      exact ⟨hk.symm, hp.symm, by show w.heap.size ≤ g; have := HB.out.size; omega, hcap, ⟨cur, keepC _ _ 5 (by decide) (by decide) hcur⟩, fun j hj => by rw [hcur' g cur hcur j, hgx]; exact hdat j hj⟩
  · exact Nat.le_trans hsz (Nat.le_trans hz4 hb2.size)
  · exact (HB.out.trans (HB4.mono HB.out.size)).trans hb2
end Go.Proofs.Ytndbkkldfinggab
