/- Of a memory: its pages in order (V1). Of a memory: its pages in order (V2). Of a memory: its pages in order (V3). Of a memory: its pages in order (V4). -/
import Derived.Test.YtnmpbihpoefeoaaDoorLF
import Derived.Test.YtnmpbihpoefeoaaDoorJJ
import Derived.Stop.RegionWithIn
import Derived.Shelf.Bytes.SlEqualAll
namespace Go.Proofs.YtnmpbihpoefeoaaDoor
section
open Go.RowKit Go.Shelf
attribute [local go_sem] Oper.semAt_some
theorem info62 : (Tryd.prog.info? 51).map (fun i => (i.zero, i.size, i.bytes)) = some (some (.agg #[.int .u64 0, .int .i64 0, .slice none 0 0]), 3, 40) := by kernel_rfl
/-- The cells of pages in a row. -/
def rowP (qs : List Pgd) : List Value := qs.flatMap fun y => [.int .u64 y.k, .int .i64 y.p, .slice (some ⟨y.g, 0, none⟩) 4096 y.c]
/-- A page, copied. -/
structure Cop (B : Nat) (bt : Nat → Nat → Int) (W : World) (x y : Pgd) : Prop where
  k : y.k = x.k
  p : y.p = x.p
  low : B ≤ y.g
  cap : 4096 ≤ y.c
  own : ∃ cur, W.heap[y.g]? = some (Obj.cells cur 5 (0, 0))
  data : ∀ j, j < 4096 → W.cell? ⟨y.g, j, none⟩ = some (.int .u8 (bt x.g j))
theorem Cop.kept {B : Nat} {bt : Nat → Nat → Int} {W W' : World} {x y : Pgd} {row : Option Nat} (h : Cop B bt W x y) (hg : W.grownBy W' row) (hr : row ≠ some y.g) : Cop B bt W' x y := by
  obtain ⟨cur, hc⟩ := h.own
  have e := hg.block y.g (lt_of_some hc) (fun e => hr e.symm)
  exact ⟨h.k, h.p, h.low, h.cap, ⟨cur, e.trans hc⟩, fun j hj => by have t := h.data j hj; simp only [World.cell?, e] at t ⊢; exact t⟩
/-- The pages that were asked for so far, copied: in a row of their own. -/
def Cops (B : Nat) (ps : List Pgd) (bt : Nat → Nat → Int) (W : World) (pre : List (Fin ps.length)) (qs : List Pgd) : Prop := qs.length = pre.length ∧ ∀ (i : Nat) (x : Fin ps.length) (y : Pgd), pre[i]? = some x → qs[i]? = some y → Cop B bt W (ordP ps x.1) y
/-- A round of Pages. -/
structure Grew (w W0 W : World) (b r : Nat) (ps : List Pgd) (bt : Nat → Nat → Int) (pre : List (Fin ps.length)) (qs : List Pgd) (xk xp : Int) (xg g cap : Nat) (v' : Value) (W' : World) : Prop where
  keeps : KeepsFrom W0.heap.size W W'
  keep : KeepO b r (w.heap.size + 1) W W'
  box : Boxed W' w.heap.size 38 v'
  boxm : Boxed W' (w.heap.size + 1) 66 (.pointer (some ⟨b, 0, none⟩))
  row : W'.ownsRow w.heap.size 51 3 v' (pre.length + 1) (rowP (qs ++ [⟨xk, xp, g, cap⟩]))
  cops : ∀ x : Fin ps.length, (ordP ps x.1).k = xk → (ordP ps x.1).p = xp → (ordP ps x.1).g = xg → Cops w.heap.size ps bt W' (pre ++ [x]) (qs ++ [⟨xk, xp, g, cap⟩])
  size : W0.heap.size ≤ W'.heap.size
  below : Below w.heap.size w W'
/-- A page copied, and laid behind the row: what a round of Pages does. -/
theorem round35 (b r : Nat) (ps : List Pgd) (bt : Nat → Nat → Int) (w W0 W : World) (HM : Hid (Mm w b r ps bt)) (hlen : ps.length ≤ 65536) (hs0 : W0.heap.size = w.heap.size + 2) (hsz : W0.heap.size ≤ W.heap.size) (pre : List (Fin ps.length)) (qs : List Pgd) (v : Value) (xk xp : Int) (xg xc : Nat) (hxm : ⟨xk, xp, xg, xc⟩ ∈ ps) (hlt : pre.length < ps.length) (hl : qs.length = pre.length)
    (HB : Hid (Below w.heap.size w W)) (HV : Hid (Boxed W w.heap.size 38 v ∧ Boxed W (w.heap.size + 1) 66 (.pointer (some ⟨b, 0, none⟩)))) (HR : Hid (W.ownsRow w.heap.size 51 3 v pre.length (rowP qs))) (HC : Hid (∀ (i : Nat) (x : Fin ps.length) (y : Pgd), pre[i]? = some x → qs[i]? = some y → Cop w.heap.size bt W (ordP ps x.1) y)) :
    Calls Tryd.prog 43 #[.agg #[.int .u64 xk, .int .i64 xp, .slice (some ⟨xg, 0, none⟩) 4096 xc]] W.drew fun e w' => ∃ g cap v' w5, e = .returned (.agg #[.int .u64 xk, .int .i64 xp, .slice (some ⟨g, 0, none⟩) 4096 cap]) ∧ w'.cell? ⟨w.heap.size, 0, none⟩ = some v ∧ (Builtin.append_ #[38, 38] 38 #[v, .slice (some ⟨w'.heap.size, 0, none⟩) 1 1]).run Tryd.prog (w'.alloc (.cells #[.int .u64 xk, .int .i64 xp, .slice (some ⟨g, 0, none⟩) 4096 cap] 51)) = .ok v' w5 ∧ w5.cell? ⟨w.heap.size, 0, none⟩ = some v ∧ w5.frozen? ⟨w.heap.size, 0, none⟩ = false ∧ Grew w W0 W b r ps bt pre qs xk xp xg g cap v' (w5.setCell ⟨w.heap.size, 0, none⟩ v') := by
  obtain ⟨i0, hi, hz0, hz1, hz2⟩ := info_parts info62
  have l1 := lt_of_cell HM.out.cell
  have l3 := lt_of_some HM.out.map
  have t := copied29 xk xp xg 0 xc (bt xg) W.drew (fun j hj => by rw [Nat.zero_add]; exact (HM.out.below (HB.out.drew)).data _ hxm j hj)
  refine (t.mono ?_ : Calls _ _ _ _ _)
  rintro e w4 ⟨g, cap, cur, rfl, hg4, hcap, hcur, hcsz, hdat, hb4⟩
  have hz4 : W.heap.size ≤ w4.heap.size := hb4.size
  have HB4 : Below W.heap.size W w4 := ((Below.refl _ W).drew).trans hb4
  have hv4 : Boxed w4 w.heap.size 38 v := HV.out.1.kept (grown_of_below HB4) (by intro e; cases e)
  have hr4 : w4.ownsRow w.heap.size 51 3 v pre.length (rowP qs) := HR.out.kept (grown_of_below HB4) (by rcases HR.out.2 with ⟨rfl, _⟩ | ⟨g, cap, cur, rfl, _⟩ <;> simp [Value.ownBlock])
  obtain ⟨v', w5, hap, hown5, hgr5, -, -⟩ := run_append_own_at (P := Tryd.prog) (w4.alloc (.cells #[.int .u64 xk, .int .i64 xp, .slice (some ⟨g, 0, none⟩) 4096 cap] 51)) w.heap.size 38 38 51 i0 (.agg #[.int .u64 0, .int .i64 0, .slice none 0 0]) 3 40 Tryd.underlying38 hi hz0 hz1 hz2 rfl (by decide) v pre.length (rowP qs) (hr4.alloc _) ⟨w4.heap.size, 0, none⟩ 1 1 [.int .u64 xk, .int .i64 xp, .slice (some ⟨g, 0, none⟩) 4096 cap] rfl (by
      intro j u hju
      have := World.alloc_heap_new w4 (.cells #[.int .u64 xk, .int .i64 xp, .slice (some ⟨g, 0, none⟩) 4096 cap] 51)
      rcases j with _ | _ | _ | j <;> simp at hju <;> subst hju <;> rw [Go.WideShapes.add_plain] <;> simp only [World.cell?, this] <;> rfl) (by simp [Value.oneCell']) (by unfold maxLen; omega) (by omega) (by simp; omega)
  obtain ⟨hv1, hv2, hr2, hk2, hb2⟩ := hv4.appended (by decide) hr4 (by omega) (Nat.le_refl _) hown5 hgr5
  refine ⟨g, cap, v', w5, rfl, hv4.cell, hap, hv1.cell, hv1.frozen, ?_⟩
  have hg4' : W.heap.size ≤ g := hg4
  have hgl : g < w4.heap.size := lt_of_some hcur
  have G1 : W.grownBy w4 none := grown_of_below HB4
  have G2 := World.grownBy_alloc w4 (.cells #[.int .u64 xk, .int .i64 xp, .slice (some ⟨g, 0, none⟩) 4096 cap] 51) none
  have G4 := grownBy_setCell' w5 w.heap.size v'
  -- no row's block is a block of another type
  have NB : ∀ (X : World) (k : Nat) (cur : Array Value) (ty : TypeId), X.ownsRow w.heap.size 51 3 v pre.length (rowP qs) → X.heap[k]? = some (Obj.cells cur ty (0, 0)) → ty ≠ 51 → v.ownBlock ≠ some k := by
    intro X k cur ty ho hk hty e
    rcases ho.2 with ⟨rfl, _⟩ | ⟨g', cap', cur', rfl, _, hgb, _⟩
    · cases e
    · cases e; rw [hk] at hgb; cases hgb; exact hty rfl
  have hr4' := hr4.alloc (.cells #[.int .u64 xk, .int .i64 xp, .slice (some ⟨g, 0, none⟩) 4096 cap] 51)
  have rowge : ∀ k, v.ownBlock = some k → w.heap.size ≤ k := by
    intro k e
    rcases hr4.2 with ⟨rfl, _⟩ | ⟨g', cap', cur', rfl, hge, _⟩
    · cases e
    · cases e; exact hge
  have hm4 : Boxed w4 (w.heap.size + 1) 66 (.pointer (some ⟨b, 0, none⟩)) := HV.out.2.kept G1 (by intro e; cases e)
  have hm5 : Boxed w5 (w.heap.size + 1) 66 (.pointer (some ⟨b, 0, none⟩)) := (hm4.alloc _).kept hgr5 (NB _ _ _ 66 hr4' (hm4.alloc _) (by decide)).symm
  have hmF : Boxed (w5.setCell ⟨w.heap.size, 0, none⟩ v') (w.heap.size + 1) 66 (.pointer (some ⟨b, 0, none⟩)) := hm5.kept G4 (by intro e; have := Option.some.inj e; omega)
  have keepC : ∀ (y : Nat) (cur : Array Value) (ty : TypeId), ty ≠ 51 → ty ≠ 38 → w4.heap[y]? = some (Obj.cells cur ty (0, 0)) → (w5.setCell ⟨w.heap.size, 0, none⟩ v').heap[y]? = some (Obj.cells cur ty (0, 0)) := by
    intro y cur ty h1 h2 hy
    have e2 := heap_on hy (.cells #[.int .u64 xk, .int .i64 xp, .slice (some ⟨g, 0, none⟩) 4096 cap] 51)
    have e5 := (hgr5.block y (lt_of_some e2) (fun e => NB _ _ _ ty hr4' e2 h1 e.symm)).trans e2
    refine (G4.block y (lt_of_some e5) (fun e => ?_)).trans e5
    have e' := Option.some.inj e
    subst e'
    have hb5 : w5.heap[w.heap.size]? = some (Obj.cells #[v] 38 (0, 0)) := hv1
    rw [hb5] at e5; cases e5; exact h2 rfl
  have hcur' : ∀ (y : Nat) (cur : Array Value), w4.heap[y]? = some (Obj.cells cur 5 (0, 0)) → ∀ j, (w5.setCell ⟨w.heap.size, 0, none⟩ v').cell? ⟨y, j, none⟩ = w4.cell? ⟨y, j, none⟩ := by
    intro y cur hy j
    simp only [World.cell?, hy, keepC y cur 5 (by decide) (by decide) hy]
  refine ⟨(hk2.from _ |> fun h => (KeepsFrom.of_grownBy G1 (by intro k e; cases e)).trans h), ?_, hv2, hmF, ?_, ?_, ?_, ?_⟩
  · have lbW : b < W.heap.size := by have := HB.out.size; omega
    have lrW : r < W.heap.size := by have := HB.out.size; omega
    have hlow : ∀ k, k < w.heap.size → (w5.setCell ⟨w.heap.size, 0, none⟩ v').heap[k]? = W.heap[k]? := fun k hk => (hb2.block k hk).trans (HB4.block k (by have := HB.out.size; omega))
    refine ⟨Nat.le_trans hz4 hb2.size, hlow r l3, by simp only [World.cell?, hlow b l1], ?_, fun k cur hk => keepC k cur 22 (by decide) (by decide) ((HB4.block k (lt_of_some hk)).trans hk)⟩
    rw [hmF.cell, HV.out.2.cell]
  · have e : rowP (qs ++ [⟨xk, xp, g, cap⟩]) = rowP qs ++ [.int .u64 xk, .int .i64 xp, .slice (some ⟨g, 0, none⟩) 4096 cap] := by simp [rowP, List.flatMap_append]
    rw [e]; exact hr2
  · intro x hk hp hgx
    refine ⟨by simp [hl], fun i x' y h1 h2 => ?_⟩
    by_cases hi' : i < pre.length
    · rw [List.getElem?_append_left hi'] at h1
      rw [List.getElem?_append_left (by omega)] at h2
      have c := HC.out i x' y h1 h2
      obtain ⟨cu, hcu⟩ := c.own
      have hcu4 := (HB4.block y.g (lt_of_some hcu)).trans hcu
      exact ⟨c.k, c.p, c.low, c.cap, ⟨cu, keepC _ _ 5 (by decide) (by decide) hcu4⟩, fun j hj => by rw [hcur' y.g cu hcu4 j, HB4.cell (p := ⟨y.g, j, none⟩) (lt_of_some hcu)]; exact c.data j hj⟩
    · rw [List.getElem?_append_right (by omega)] at h1
      rw [List.getElem?_append_right (by omega)] at h2
      have hi0 : i - pre.length = 0 := by
        by_cases e : i - pre.length = 0
        · exact e
        · rw [List.getElem?_eq_none (by simp; omega)] at h1; cases h1
      rw [hi0] at h1
      rw [hl, hi0] at h2
      simp at h1 h2
      subst h1
      subst h2
      exact ⟨hk.symm, hp.symm, by show w.heap.size ≤ g; have := HB.out.size; omega, hcap, ⟨cur, keepC _ _ 5 (by decide) (by decide) hcur⟩, fun j hj => by rw [hcur' g cur hcur j, hgx]; exact hdat j hj⟩
  · exact Nat.le_trans hsz (Nat.le_trans hz4 hb2.size)
  · exact (HB.out.trans (HB4.mono HB.out.size)).trans hb2
end
section
open Go.RowKit Go.Shelf
attribute [local go_sem] Oper.semAt_some
theorem stepIn_append {F : Fence} {n : Nat} {P : Program} {ops : Array Oper} {o : Oper} {a : Act} {w : World} {K : Act → World → Prop} {Q : Exit → Act → World → Prop} {E : Prop} {v u : Value} (hgd : o.guard = none) (s x : Operand) (t : TypeId) (ho : o.op = .call { callee := .builtin .append, args := #[s, x], argTypes := #[t, t] }) (hs : a.eval s = v) (hx : a.eval x = u) (v' : Value) (w' : World) (hr : (Builtin.append_ #[t, t] o.type #[v, u]).run P w = .ok v' w') (h : K (a.put o.dst v') w') : if Region.wanted o (yielded ops a.tmps) = true then Oper.wpIn F n P o a w K Q else E := by
  have hw : Region.wanted o (yielded ops a.tmps) = true := by simp [Region.wanted, hgd]
  rw [if_pos hw]
  unfold Oper.wpIn
  refine ⟨by simp [Oper.about, ho, resolve, Target.leads, Sem.run_pure], ?_⟩
  rw [Oper.semAt_plain F _ _ (by rw [ho]; intro c hc'; cases hc')]
  simp [execOp, ho, resolve, invoke, builtin, hs, hx, hr, Result.andThen]
  exact h
set_option maxRecDepth 100000 in
set_option maxHeartbeats 2000000 in
theorem pages35 (b r : Nat) (ps : List Pgd) (bt : Nat → Nat → Int) (w : World) (h : Mm w b r ps bt) (hlen : ps.length ≤ 65536) :
    Calls Tryd.prog 32 #[.pointer (some ⟨b, 0, none⟩)] w fun e w' => ∃ v qs, e = .returned v ∧ w'.ownsRow w.heap.size 51 3 v ps.length (rowP qs) ∧ Cops w.heap.size ps bt w' (List.finRange ps.length) qs ∧ Below w.heap.size w w' := by
  obtain ⟨i0, hi, hz0, hz1, hz2⟩ := info_parts info62
  have HM : Hid (Mm w b r ps bt) := h
  have l1 := lt_of_cell h.cell
  have l3 := lt_of_some h.map
  clear h
  refine (callsIn_wide (n := 9)).1 ?_
  refine callsIn_of_wp_marks Tryd.func32 rfl trivial ?_ rfl
  simp only [Tryd.ntmps32, List.size_toArray, List.length_cons, List.length_nil, Nat.reduceAdd, Nat.reduceSub, Array.replicate_succ, Array.replicate_zero, List.push_toArray, List.append_toArray, List.nil_append, List.cons_append]
  gi_wp2_with fail
  refine ⟨trivial, ?_⟩
  refine (callsIn_wide.2 (inOrder36 b _)).mono ?_
  rintro e w1 ⟨rfl, e1⟩
  subst e1
  gi_wp2_with fail
  obtain ⟨W0, hW0⟩ : ∃ W0, ((w.alloc (.cells #[.slice none 0 0] 38)).alloc (.cells #[.pointer (some ⟨b, 0, none⟩)] 66)) = W0 := ⟨_, rfl⟩
  have hB0 : Below w.heap.size w W0 := by rw [← hW0]; exact ((Below.refl _ w).alloc (Nat.le_refl _) _).alloc (by simp) _
  have b0 : Boxed W0 w.heap.size 38 (.slice none 0 0) := by rw [← hW0]; exact (Boxed.new w 38 _).alloc _
  have m0 : Boxed W0 (w.heap.size + 1) 66 (.pointer (some ⟨b, 0, none⟩)) := by rw [← hW0]; have := Boxed.new (w.alloc (.cells #[.slice none 0 0] 38)) 66 (.pointer (some ⟨b, 0, none⟩)); simpa using this
  have hs0 : W0.heap.size = w.heap.size + 2 := by rw [← hW0]; simp
  rw [hW0]
  clear hW0
  refine wpIn_rangeFunc_ownH rfl (by omega) (gf := 52) (lb := #[.pointer (some ⟨w.heap.size + 1, 0, none⟩)]) rfl trivial (enters_of Tryd.func52 (by kernel_rfl) rfl)
    (order50 8 b r (w.heap.size + 1) ps W0 (by omega) m0.cell (HM.out.below hB0).cell (HM.out.below hB0).map hlen)
    (fun h k => h.trans k)
    (fun W l o o' hl ho hc _ => KeepO.put (B := W0.heap.size) W l o o' (by omega) (by omega) (by omega) hl ho hc)
    (Below.refl _ _) (fun _ => rfl)
    (fun (pre : List (Fin ps.length)) W => (∃ v qs, (Boxed W w.heap.size 38 v ∧ Boxed W (w.heap.size + 1) 66 (.pointer (some ⟨b, 0, none⟩))) ∧ W.ownsRow w.heap.size 51 3 v pre.length (rowP qs) ∧ Cops w.heap.size ps bt W pre qs) ∧ W0.heap.size ≤ W.heap.size ∧ Below w.heap.size w W)
    (fun _ _ _ => False)
    (fun s A B row hh hg hr => by
      obtain ⟨⟨v, qs, ⟨hv, hvm⟩, ho, hl, hc⟩, hsz, hB⟩ := hh
      refine ⟨⟨v, qs, ⟨hv.kept hg (by intro e; have := (hr _ e.symm).1; omega), hvm.kept hg (by intro e; have := (hr _ e.symm).1; omega)⟩, ?_, hl, fun i x y h1 h2 => ?_⟩, Nat.le_trans hsz hg.size, hB.grown hg hB.size (fun k e => by have := (hr k e).1; omega)⟩
      · refine ho.kept hg ?_
        rcases ho.2 with ⟨rfl, _⟩ | ⟨g, cap, cur, rfl, _, hgb, _⟩
        · exact .inl rfl
        · refine .inr (fun e => ?_)
          obtain ⟨_, o, hoo, hcc⟩ := hr g e.symm
          rw [hgb] at hoo; cases hoo; cases hcc
      · have c := hc i x y h1 h2
        refine c.kept hg (fun e => ?_)
        obtain ⟨_, o, ho, hcc⟩ := hr _ e
        obtain ⟨cur, hcur⟩ := c.own
        rw [hcur] at ho; cases ho; cases hcc)
    (fun _ _ _ _ _ hs _ _ => hs)
    ⟨⟨_, [], ⟨b0, m0⟩, World.ownsRow_nil _ _ _ _, rfl, by simp⟩, Nat.le_refl _, hB0⟩
    (fun x a' W => ∃ q, W0.heap.size ≤ q ∧ W.heap[q]? = some (.cells #[.int .u64 (ordP ps x.1).k, .int .i64 (ordP ps x.1).p, .slice (some ⟨(ordP ps x.1).g, 0, none⟩) 4096 (ordP ps x.1).c] 51) ∧ a' = { tmps := #[.pointer (some ⟨b, 0, none⟩), undef, .slice none 0 0, .pointer (some ⟨w.heap.size, 0, none⟩), .pointer (some ⟨q, 0, none⟩), .pointer (some ⟨b, 0, none⟩), .func (.func 52) #[] #[.pointer (some ⟨w.heap.size + 1, 0, none⟩)], pval (ordP ps x.1), undef, undef, undef, undef, undef, undef], defers := [] })
    (fun x a' s A B row hh hg hr => by obtain ⟨q, h1, h2, h3⟩ := hh; exact ⟨q, h1, (hg.block q (lt_of_some h2) (fun e => by obtain ⟨_, o, ho, hc⟩ := hr q e.symm; rw [h2] at ho; cases ho; cases hc)).trans h2, h3⟩)
    ?assign ?body ?done ?stop
  case assign =>
    intro l pre x W K hI hK
    obtain ⟨⟨v, qs, ⟨i1, im⟩, irow, il, ic⟩, hsz, hB⟩ := hI
    have HK : Hid (∀ a' W', KeepsFrom W0.heap.size W W' → KeepO b r (w.heap.size + 1) W W' → ((∃ v qs, (Boxed W' w.heap.size 38 v ∧ Boxed W' (w.heap.size + 1) 66 (.pointer (some ⟨b, 0, none⟩))) ∧ W'.ownsRow w.heap.size 51 3 v pre.length (rowP qs) ∧ Cops w.heap.size ps bt W' pre qs) ∧ W0.heap.size ≤ W'.heap.size ∧ Below w.heap.size w W') → _ → K a' W') := hK
    have HI : Hid ((Boxed W w.heap.size 38 v ∧ Boxed W (w.heap.size + 1) 66 (.pointer (some ⟨b, 0, none⟩))) ∧ W.ownsRow w.heap.size 51 3 v pre.length (rowP qs) ∧ Cops w.heap.size ps bt W pre qs ∧ Below w.heap.size w W) := ⟨⟨i1, im⟩, irow, ⟨il, ic⟩, hB⟩
    clear hK i1 im irow il ic hB
    unfold pval
    gi_wp2
    have hg := World.grownBy_alloc W (.cells #[.int .u64 (ordP ps x.1).k, .int .i64 (ordP ps x.1).p, .slice (some ⟨(ordP ps x.1).g, 0, none⟩) 4096 (ordP ps x.1).c] 51) none
    obtain ⟨⟨i1, im⟩, irow, ⟨il, ic⟩, hB⟩ := HI.out
    exact HK.out _ _ (KeepsFrom.of_grownBy hg (by intro k e; cases e)) (KeepO.grown hg (by omega) (by omega) (by omega)) ⟨⟨v, qs, ⟨i1.alloc _, im.alloc _⟩, irow.alloc _, il, fun i x' y h1 h2 => (ic i x' y h1 h2).kept hg (by intro e; cases e)⟩, by simp; omega, hB.alloc (by omega) _⟩ ⟨W.heap.size, hsz, heap_at _ _, rfl⟩
  case body =>
    rintro l pre x a' W hl0 _ ⟨⟨v, qs, ⟨hv, hvm⟩, hrow, hl, hcs⟩, hsz, hB⟩ ⟨q, hq, hqc, rfl⟩ hlt
    have hxm : ordP ps x.1 ∈ ps := (pg_k (ordP_k ps x.1 x.2)).2
    unfold pval
    obtain ⟨xx, hxx⟩ : ∃ xx, ordP ps x.1 = xx := ⟨_, rfl⟩
    have HXX : Hid (ordP ps x.1 = xx) := hxx
    rw [hxx] at hqc hxm ⊢
    clear hxx
    obtain ⟨xk, xp, xg, xc⟩ := xx
    dsimp only at hqc ⊢
    have hc := hv.cell
    have hf := hv.frozen
    have c2 : W.cell? ⟨q, 0, none⟩ = some (.int .u64 xk) := by simp [World.cell?, hqc]
    have c3 : W.cell? ⟨q, 1, none⟩ = some (.int .i64 xp) := by simp [World.cell?, hqc]
    have c4 : W.cell? ⟨q, 2, none⟩ = some (.slice (some ⟨xg, 0, none⟩) 4096 xc) := by simp [World.cell?, hqc]
    have ql : q < W.heap.size := lt_of_some hqc
    have HB : Hid (Below w.heap.size w W) := hB
    have HV : Hid (Boxed W w.heap.size 38 v ∧ Boxed W (w.heap.size + 1) 66 (.pointer (some ⟨b, 0, none⟩))) := ⟨hv, hvm⟩
    have HR : Hid (W.ownsRow w.heap.size 51 3 v pre.length (rowP qs)) := hrow
    have HC : Hid (∀ (i : Nat) (x : Fin ps.length) (y : Pgd), pre[i]? = some x → qs[i]? = some y → Cop w.heap.size bt W (ordP ps x.1) y) := hcs
    have HCo : Hid (Calls Tryd.prog 43 #[.agg #[.int .u64 xk, .int .i64 xp, .slice (some ⟨xg, 0, none⟩) 4096 xc]] W.drew fun e w' => ∃ g cap v' w5, e = .returned (.agg #[.int .u64 xk, .int .i64 xp, .slice (some ⟨g, 0, none⟩) 4096 cap]) ∧ w'.cell? ⟨w.heap.size, 0, none⟩ = some v ∧ (Builtin.append_ #[38, 38] 38 #[v, .slice (some ⟨w'.heap.size, 0, none⟩) 1 1]).run Tryd.prog (w'.alloc (.cells #[.int .u64 xk, .int .i64 xp, .slice (some ⟨g, 0, none⟩) 4096 cap] 51)) = .ok v' w5 ∧ w5.cell? ⟨w.heap.size, 0, none⟩ = some v ∧ w5.frozen? ⟨w.heap.size, 0, none⟩ = false ∧ Grew w W0 W b r ps bt pre qs xk xp xg g cap v' (w5.setCell ⟨w.heap.size, 0, none⟩ v')) := round35 b r ps bt w W0 W HM hlen hs0 hsz pre qs v xk xp xg xc hxm hlt hl HB HV HR HC
    clear hv hvm hrow hcs hB hxm hqc
    gi_wp2_with fail
    refine wpIn_region_any (by kernel_rfl) ?_
    change wpAnyIn _ _ _ _ _ _ _ _ _ (World.drew _)
    refine wpAnyIn_ready (rs := [0, 1]) (by kernel_rfl) (by simp) (AllReadyIn.cons rfl (fun K hK => ?_) (AllReadyIn.cons rfl (fun K hK => ?_) AllReadyIn.nil))
    · (go_simp; refine hK _ _ ?_; clear hK K)
      refine wpAnyIn_ready (rs := [1]) (by kernel_rfl) (by simp) (AllReadyIn.cons rfl (fun K hK => ?_) AllReadyIn.nil)
      (go_simp; refine hK _ _ ?_; clear hK K)
      refine wpAnyIn_ready (rs := [2]) (by kernel_rfl) (by simp) (AllReadyIn.cons rfl (fun K hK => ?_) AllReadyIn.nil)
      (go_simp; refine ⟨trivial, ?_⟩; refine (callsIn_wide.2 HCo.out).mono ?_; rintro e w4 ⟨g, cap, v', w5, rfl, dc, hap, dc5, df5, hfin⟩; have HF : Hid (Grew w W0 W b r ps bt pre qs xk xp xg g cap v' (w5.setCell ⟨w.heap.size, 0, none⟩ v')) := hfin; clear hfin; obtain ⟨g2, cap2, rfl⟩ := ownsRow_succ HF.out.row; have dl : w.heap.size < w4.heap.size := lt_of_cell dc; refine hK _ _ ?_; clear hK K)
      refine wpAnyIn_ready (rs := [3]) (by kernel_rfl) (by simp) (AllReadyIn.cons rfl (fun K hK => ?_) AllReadyIn.nil)
      (go_simp; refine hK _ _ ?_; clear hK K)
      refine wpAnyIn_ready (rs := [4]) (by kernel_rfl) (by simp) (AllReadyIn.cons rfl (fun K hK => ?_) AllReadyIn.nil)
      (refine stepIn_append rfl _ _ _ rfl rfl rfl _ _ hap (hK _ _ ?_); clear hK K)
      refine wpAnyIn_ready (rs := [5]) (by kernel_rfl) (by simp) (AllReadyIn.cons rfl (fun K hK => ?_) AllReadyIn.nil)
      (go_simp; refine hK _ _ ?_; clear hK K)
      refine wpAnyIn_done (by kernel_rfl) ?_ _
      exact ⟨HF.out.keeps, HF.out.keep, ⟨_, qs ++ [⟨xk, xp, g, cap⟩], ⟨HF.out.box, HF.out.boxm⟩, by rw [List.length_append, List.length_singleton]; exact HF.out.row, HF.out.cops x (by rw [HXX.out]) (by rw [HXX.out]) (by rw [HXX.out])⟩, HF.out.size, HF.out.below⟩
    · (go_simp; refine hK _ _ ?_; clear hK K)
      refine wpAnyIn_ready (rs := [0, 2]) (by kernel_rfl) (by simp) (AllReadyIn.cons rfl (fun K hK => ?_) (AllReadyIn.cons rfl (fun K hK => ?_) AllReadyIn.nil))
      · (go_simp; refine hK _ _ ?_; clear hK K)
        refine wpAnyIn_ready (rs := [2]) (by kernel_rfl) (by simp) (AllReadyIn.cons rfl (fun K hK => ?_) AllReadyIn.nil)
        (go_simp; refine ⟨trivial, ?_⟩; refine (callsIn_wide.2 HCo.out).mono ?_; rintro e w4 ⟨g, cap, v', w5, rfl, dc, hap, dc5, df5, hfin⟩; have HF : Hid (Grew w W0 W b r ps bt pre qs xk xp xg g cap v' (w5.setCell ⟨w.heap.size, 0, none⟩ v')) := hfin; clear hfin; obtain ⟨g2, cap2, rfl⟩ := ownsRow_succ HF.out.row; have dl : w.heap.size < w4.heap.size := lt_of_cell dc; refine hK _ _ ?_; clear hK K)
        refine wpAnyIn_ready (rs := [3]) (by kernel_rfl) (by simp) (AllReadyIn.cons rfl (fun K hK => ?_) AllReadyIn.nil)
        (go_simp; refine hK _ _ ?_; clear hK K)
        refine wpAnyIn_ready (rs := [4]) (by kernel_rfl) (by simp) (AllReadyIn.cons rfl (fun K hK => ?_) AllReadyIn.nil)
        (refine stepIn_append rfl _ _ _ rfl rfl rfl _ _ hap (hK _ _ ?_); clear hK K)
        refine wpAnyIn_ready (rs := [5]) (by kernel_rfl) (by simp) (AllReadyIn.cons rfl (fun K hK => ?_) AllReadyIn.nil)
        (go_simp; refine hK _ _ ?_; clear hK K)
        refine wpAnyIn_done (by kernel_rfl) ?_ _
        exact ⟨HF.out.keeps, HF.out.keep, ⟨_, qs ++ [⟨xk, xp, g, cap⟩], ⟨HF.out.box, HF.out.boxm⟩, by rw [List.length_append, List.length_singleton]; exact HF.out.row, HF.out.cops x (by rw [HXX.out]) (by rw [HXX.out]) (by rw [HXX.out])⟩, HF.out.size, HF.out.below⟩
      · (go_simp; refine ⟨trivial, ?_⟩; refine (callsIn_wide.2 HCo.out).mono ?_; rintro e w4 ⟨g, cap, v', w5, rfl, dc, hap, dc5, df5, hfin⟩; have HF : Hid (Grew w W0 W b r ps bt pre qs xk xp xg g cap v' (w5.setCell ⟨w.heap.size, 0, none⟩ v')) := hfin; clear hfin; obtain ⟨g2, cap2, rfl⟩ := ownsRow_succ HF.out.row; have dl : w.heap.size < w4.heap.size := lt_of_cell dc; refine hK _ _ ?_; clear hK K)
        refine wpAnyIn_ready (rs := [0, 3]) (by kernel_rfl) (by simp) (AllReadyIn.cons rfl (fun K hK => ?_) (AllReadyIn.cons rfl (fun K hK => ?_) AllReadyIn.nil))
        · (go_simp; refine hK _ _ ?_; clear hK K)
          refine wpAnyIn_ready (rs := [3]) (by kernel_rfl) (by simp) (AllReadyIn.cons rfl (fun K hK => ?_) AllReadyIn.nil)
          (go_simp; refine hK _ _ ?_; clear hK K)
          refine wpAnyIn_ready (rs := [4]) (by kernel_rfl) (by simp) (AllReadyIn.cons rfl (fun K hK => ?_) AllReadyIn.nil)
          (refine stepIn_append rfl _ _ _ rfl rfl rfl _ _ hap (hK _ _ ?_); clear hK K)
          refine wpAnyIn_ready (rs := [5]) (by kernel_rfl) (by simp) (AllReadyIn.cons rfl (fun K hK => ?_) AllReadyIn.nil)
          (go_simp; refine hK _ _ ?_; clear hK K)
          refine wpAnyIn_done (by kernel_rfl) ?_ _
          exact ⟨HF.out.keeps, HF.out.keep, ⟨_, qs ++ [⟨xk, xp, g, cap⟩], ⟨HF.out.box, HF.out.boxm⟩, by rw [List.length_append, List.length_singleton]; exact HF.out.row, HF.out.cops x (by rw [HXX.out]) (by rw [HXX.out]) (by rw [HXX.out])⟩, HF.out.size, HF.out.below⟩
        · (go_simp; refine hK _ _ ?_; clear hK K)
          refine wpAnyIn_ready (rs := [0]) (by kernel_rfl) (by simp) (AllReadyIn.cons rfl (fun K hK => ?_) AllReadyIn.nil)
          (go_simp; refine hK _ _ ?_; clear hK K)
          refine wpAnyIn_ready (rs := [4]) (by kernel_rfl) (by simp) (AllReadyIn.cons rfl (fun K hK => ?_) AllReadyIn.nil)
          (refine stepIn_append rfl _ _ _ rfl rfl rfl _ _ hap (hK _ _ ?_); clear hK K)
          refine wpAnyIn_ready (rs := [5]) (by kernel_rfl) (by simp) (AllReadyIn.cons rfl (fun K hK => ?_) AllReadyIn.nil)
          (go_simp; refine hK _ _ ?_; clear hK K)
          refine wpAnyIn_done (by kernel_rfl) ?_ _
          exact ⟨HF.out.keeps, HF.out.keep, ⟨_, qs ++ [⟨xk, xp, g, cap⟩], ⟨HF.out.box, HF.out.boxm⟩, by rw [List.length_append, List.length_singleton]; exact HF.out.row, HF.out.cops x (by rw [HXX.out]) (by rw [HXX.out]) (by rw [HXX.out])⟩, HF.out.size, HF.out.below⟩
  case done =>
    rintro D ys W hD hS ⟨⟨v, qs, ⟨hv, hvm⟩, hrow, hcl, hcs⟩, hsz, hB⟩ hK
    subst hS
    have hc := hv.cell
    have HX : Hid (W.ownsRow w.heap.size 51 3 v (List.finRange ps.length).length (rowP qs) ∧ qs.length = (List.finRange ps.length).length ∧ ∀ (i : Nat) (x : Fin ps.length) (y : Pgd), (List.finRange ps.length)[i]? = some x → qs[i]? = some y → Cop w.heap.size bt W (ordP ps x.1) y) := ⟨hrow, hcl, hcs⟩
    clear hrow hcl hcs
    gi_wp2
    refine ⟨by simp, .inl ⟨_, _, rfl, run_takeDeferred hK, ?_⟩⟩
    obtain ⟨hrow, hcl, hcs⟩ := HX.out
    have hg := grownBy_putObj' W D (.deferred none)
    refine ⟨_, results_tmp rfl _ _ _, v, qs, rfl, ?_, ⟨hcl, fun i x y h1 h2 => (hcs i x y h1 h2).kept hg (fun e => ?_)⟩, hB.trans (belowK_b (w := w) (Nat.le_refl _) W D _ _ (by omega) hK rfl rfl)⟩
    · have t := ownsRow_putObj hrow (.deferred none) hK rfl
      rw [List.length_finRange] at t
      exact t
    · obtain ⟨cur, hcur⟩ := (hcs i x y h1 h2).own
      rw [← Option.some.inj e, hK] at hcur
      cases hcur
  case stop =>
    rintro D c pre W _ _ h _
    exact h.elim
end
section
open Go.RowKit Go.Shelf
set_option maxHeartbeats 1000000 in
theorem bytes24 (p1 p2 : Option Addr) (n c d : Nat) (xs : List Int) (w : World) (hx : xs.length = n) (h1 : Lib.BytesIn w p1 n xs) (h2 : Lib.BytesIn w p2 n xs) : Calls Tryd.prog 31 #[.slice p1 n c, .slice p2 n d] w fun e w' => e = .returned (.bool true) ∧ w' = w := by
  have c1 := h1.convert (P := Tryd.prog) hx c 35 5 9 Tryd.underlying35 Tryd.underlying5 Tryd.underlying9
  have c2 := h2.convert (P := Tryd.prog) hx d 35 5 9 Tryd.underlying35 Tryd.underlying5 Tryd.underlying9
  clear h1 h2
  generalize strOfNums xs = s at *
  go_enter Tryd.func31, Tryd.ntmps31
  go_wp2
  go_ret
  exact ⟨by simp, rfl⟩
/-- Pages in a row, all of 4096 bytes. -/
structure Row (W : World) (lb lo n : Nat) (k p : Nat → Int) (Y : Nat → Nat → Int) (g o c : Nat → Nat) : Prop where
  c0 : ∀ i, i < n → W.cell? ⟨lb, lo + i * 3, none⟩ = some (.int .u64 (k i))
  c1 : ∀ i, i < n → W.cell? ⟨lb, lo + i * 3 + 1, none⟩ = some (.int .i64 (p i))
  c2 : ∀ i, i < n → W.cell? ⟨lb, lo + i * 3 + 2, none⟩ = some (.slice (some ⟨g i, o i, none⟩) 4096 (c i))
  cs : ∀ i, i < n → ∀ j, j < 4096 → W.cell? ⟨g i, o i + j, none⟩ = some (.int .u8 (Y i j))
set_option maxRecDepth 20000 in
set_option maxHeartbeats 1000000 in
theorem pages34 (la oa lb ob n ca cb : Nat) (k p : Nat → Int) (Y : Nat → Nat → Int) (g o c g' o' c' : Nat → Nat) (w : World) (h : Row w la oa n k p Y g o c) (h' : Row w lb ob n k p Y g' o' c') (hn : n ≤ 65536) : Calls Tryd.prog 16 #[.slice (some ⟨la, oa, none⟩) n ca, .slice (some ⟨lb, ob, none⟩) n cb] w fun e w' => e = .returned (.bool true) ∧ Below w.heap.size w w' := by
  have H : Hid (Row w la oa n k p Y g o c) := h
  have H' : Hid (Row w lb ob n k p Y g' o' c') := h'
  clear h h'
  go_enter Tryd.func16, Tryd.ntmps16
  go_wp2
  go_loopw [13] (fun x wr => ∃ i : Nat, i ≤ n ∧ x = .int .i64 i ∧ Row wr la oa n k p Y g o c ∧ Row wr lb ob n k p Y g' o' c' ∧ Below w.heap.size w wr) (fun x _ => n - (intOf x).toNat)
  case atStart => exact ⟨0, Nat.zero_le _, rfl, H.out, H'.out, Below.refl _ _⟩
  case round =>
    obtain ⟨i, hi, rfl, r1, r2, r3⟩ := hrel
    have R : Hid (Row wr la oa n k p Y g o c) := r1
    have R' : Hid (Row wr lb ob n k p Y g' o' c') := r2
    have RB : Hid (Below w.heap.size w wr) := r3
    clear r1 r2 r3
    by_cases hlt : i < n
    · have a0 := R.out.c0 i hlt
      have a1 := R.out.c1 i hlt
      have a2 := R.out.c2 i hlt
      have b0 := R'.out.c0 i hlt
      have b1 := R'.out.c1 i hlt
      have b2 := R'.out.c2 i hlt
      have HE : Hid (∀ m, Calls Tryd.prog 31 #[.slice (some ⟨g i, o i, none⟩) 4096 (c i), .slice (some ⟨g' i, o' i, none⟩) 4096 (c' i)] (wr.drewN m) fun e w' => e = .returned (.bool true) ∧ w' = wr.drewN m) := fun m => bytes24 _ _ 4096 _ _ ((List.range 4096).map (Y i)) (wr.drewN m) (by simp) (fun _ => ⟨_, _, rfl, fun j hj => (R.out.cs i hlt j hj).trans (by simp [hj, List.getD])⟩) (fun _ => ⟨_, _, rfl, fun j hj => (R'.out.cs i hlt j hj).trans (by simp [hj, List.getD])⟩)
      go_wp2_with fail
      go_quiet (first | (go_at_call 31; refine Calls.quiet_of_same (HE.out _)))
      rename_i nq
      have S1 : Hid (Row (wr.drewN nq) la oa n k p Y g o c) := ⟨R.out.c0, R.out.c1, R.out.c2, R.out.cs⟩
      have S2 : Hid (Row (wr.drewN nq) lb ob n k p Y g' o' c') := ⟨R'.out.c0, R'.out.c1, R'.out.c2, R'.out.cs⟩
      have SB : Hid (Below w.heap.size w (wr.drewN nq)) := ⟨RB.out.os, RB.out.tape, RB.out.output, RB.out.size, RB.out.block⟩
      clear R R' RB a0 a1 a2 b0 b1 b2 HE
      generalize wr.drewN nq = wq at *
      go_wp2
      go_roundw
      case rel => exact ⟨i + 1, by omega, rfl, S1.out, S2.out, SB.out⟩
      case measure => simp [intOf]; omega
    · obtain rfl : i = n := by omega
      go_wp2
      go_ret
      exact ⟨rfl, RB.out⟩
end
section
open Go.RowKit Go.Shelf
set_option maxRecDepth 20000 in
set_option maxHeartbeats 1000000 in
theorem pages34_zero (a1 a2 : Option Addr) (ca cb : Nat) (w : World) : Calls Tryd.prog 16 #[.slice a1 0 ca, .slice a2 0 cb] w fun e w' => e = .returned (.bool true) ∧ w' = w := by
  go_enter Tryd.func16, Tryd.ntmps16
  go_wp2
  go_loopw [13] (fun x wr => x = .int .i64 0 ∧ wr = w) (fun _ _ => 0)
  case atStart => exact ⟨rfl, rfl⟩
  case round =>
    obtain ⟨rfl, rfl⟩ := hrel
    go_wp2
    go_ret
    exact ⟨rfl, rfl⟩
theorem rowP_get : ∀ (qs : List Pgd) (i : Nat) (h : i < qs.length), (rowP qs)[i * 3]? = some (.int .u64 qs[i].k) ∧ (rowP qs)[i * 3 + 1]? = some (.int .i64 qs[i].p) ∧ (rowP qs)[i * 3 + 2]? = some (.slice (some ⟨qs[i].g, 0, none⟩) 4096 qs[i].c)
  | [], i, h => by cases h
  | y :: r, 0, _ => by simp [rowP]
  | y :: r, i + 1, h => by
    have t := rowP_get r i (by simpa using h)
    have e : rowP (y :: r) = .int .u64 y.k :: .int .i64 y.p :: .slice (some ⟨y.g, 0, none⟩) 4096 y.c :: rowP r := rfl
    rw [e, show (i + 1) * 3 = i * 3 + 3 by omega]
    simpa using t
/-- What Pages made, as a row. -/
theorem row_made {W : World} {B : Nat} {ps : List Pgd} {bt : Nat → Nat → Int} {v : Value} {qs : List Pgd} (hne : 0 < ps.length) (ho : W.ownsRow B 51 3 v ps.length (rowP qs)) (hc : Cops B ps bt W (List.finRange ps.length) qs) :
    ∃ la cap, v = .slice (some ⟨la, 0, none⟩) ps.length cap ∧ Row W la 0 ps.length (fun i => (ordP ps i).k) (fun i => (ordP ps i).p) (fun i j => bt (ordP ps i).g j) (fun i => (qs.getD i noP).g) (fun _ => 0) (fun i => (qs.getD i noP).c) := by
  rcases ho.2 with ⟨_, hz⟩ | ⟨g, cap, cur, rfl, hg, hh, hnc, _, hcs, htk⟩
  · omega
  obtain ⟨hl, hcc⟩ := hc
  rw [List.length_finRange] at hl
  have cell : ∀ j u, j < ps.length * 3 → (rowP qs)[j]? = some u → W.cell? ⟨g, 0 + j, none⟩ = some u := by
    intro j u hj hu
    rw [← htk, List.getElem?_take_of_lt hj] at hu
    simp only [World.cell?, hh, Nat.zero_add]
    simpa using hu
  have cop : ∀ i (hi : i < ps.length), Cop B bt W (ordP ps i) (qs.getD i noP) := fun i hi => by
    have t := hcc i ⟨i, hi⟩ qs[i] (by simp [hi]) (List.getElem?_eq_getElem (by omega))
    rw [List.getD_eq_getElem?_getD, List.getElem?_eq_getElem (by omega)]
    exact t
  have get : ∀ i (hi : i < ps.length), qs.getD i noP = qs[i]'(by omega) := fun i hi => by rw [List.getD_eq_getElem?_getD, List.getElem?_eq_getElem (by omega)]; rfl
  refine ⟨g, cap, rfl, fun i hi => ?_, fun i hi => ?_, fun i hi => ?_, fun i hi j hj => ?_⟩
  · rw [cell _ _ (by omega) (rowP_get qs i (by omega)).1, ← get i hi, (cop i hi).k]
  · rw [Nat.add_assoc, cell _ _ (by omega) (rowP_get qs i (by omega)).2.1, ← get i hi, (cop i hi).p]
  · rw [Nat.add_assoc, cell _ _ (by omega) (rowP_get qs i (by omega)).2.2, ← get i hi]
  · rw [Nat.zero_add]; exact (cop i hi).data j hj
theorem Row.below {W W' : World} {lb lo n : Nat} {k p : Nat → Int} {Y : Nat → Nat → Int} {g o c : Nat → Nat} (h : Row W lb lo n k p Y g o c) (hb : Below W.heap.size W W') : Row W' lb lo n k p Y g o c :=
  ⟨fun i hi => (hb.cell (p := ⟨lb, lo + i * 3, none⟩) (lt_of_cell (h.c0 i hi))).trans (h.c0 i hi), fun i hi => (hb.cell (p := ⟨lb, lo + i * 3 + 1, none⟩) (lt_of_cell (h.c1 i hi))).trans (h.c1 i hi), fun i hi => (hb.cell (p := ⟨lb, lo + i * 3 + 2, none⟩) (lt_of_cell (h.c2 i hi))).trans (h.c2 i hi), fun i hi j hj => (hb.cell (p := ⟨g i, o i + j, none⟩) (lt_of_cell (h.cs i hi j hj))).trans (h.cs i hi j hj)⟩
theorem Row.congr {W : World} {lb lo n : Nat} {k p k' p' : Nat → Int} {Y Y' : Nat → Nat → Int} {g o c : Nat → Nat} (h : Row W lb lo n k p Y g o c) (hk : ∀ i, i < n → k i = k' i) (hp : ∀ i, i < n → p i = p' i) (hY : ∀ i, i < n → ∀ j, j < 4096 → Y i j = Y' i j) : Row W lb lo n k' p' Y' g o c :=
  ⟨fun i hi => by rw [h.c0 i hi, hk i hi], fun i hi => by rw [h.c1 i hi, hp i hi], h.c2, fun i hi j hj => by rw [h.cs i hi j hj, hY i hi j hj]⟩
/-- Of pages that came in: the i-th page comes as the i-th. -/
theorem keysS_sorted {ps : List Pgd} (h : ps.Pairwise (fun x y => x.k < y.k)) : keysS ps = ps.map (·.k) := by
  unfold keysS
  apply List.mergeSort_of_pairwise
  rw [List.pairwise_map]
  exact h.imp (fun hxy => by simp; omega)
theorem Fr.ordP {W : World} {b r i : Nat} {k p : Nat → Int} {Y : Nat → Nat → Int} {base : Nat} {ps : List Pgd} (h : Fr W b r i k p Y base ps) (t : Nat) (ht : t < ps.length) : ordP ps t = ps[t] := by
  unfold YtnmpbihpoefeoaaDoor.ordP
  rw [keysS_sorted h.up]
  have e : (ps.map (·.k)).getD t 0 = k t := by
    rw [List.getD_eq_getElem?_getD, List.getElem?_map, List.getElem?_eq_getElem ht]
    exact (h.at_ t _ (List.getElem?_eq_getElem ht)).1
  rw [e, h.pg_at ht]
  rfl
end
end Go.Proofs.YtnmpbihpoefeoaaDoor
