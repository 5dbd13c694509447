/- A memory's copy: what a round of it does (Clone). -/
import Derived.Test.YtndbkkldfinggaaV4
import Derived.RangeFuncWrites
namespace Go.Proofs.Ytndbkkldfinggaa
open Go.RowKit Go.Shelf
attribute [local go_sem] Oper.semAt_some
/-- A store into a map whose keys are numbers, whatever lies there. -/
theorem upd_any (r : Nat) (k : Int) (v : Value) (es : Array MapEntry) (clock : Nat) (W : World) (hr : W.heap[r]? = some (.map es clock)) (hk : ∀ x ∈ es.toList, Go.MapKept.IsKey (.int .u64) x.key) : ∃ es' clock', (Instr.mapUpdate 39 (.map (some r)) (.int .u64 k) v).run Try.prog W = .ok () (W.putObj r (.map es' clock')) ∧ ∀ x ∈ es'.toList, Go.MapKept.IsKey (.int .u64) x.key := by
  have hkk : Go.MapKept.IsKey (.int .u64) (.int .u64 k) := by simp [Go.MapKept.IsKey]
  rcases Go.MapKept.findNow_spec hkk es.toList 0 hk with ⟨h1, h2⟩ | ⟨j, e, h1, h2, h3⟩
  · refine ⟨_, _, upd42 r k v es clock W hr h1, fun x hx => ?_⟩
    simp only [Array.toList_push, List.mem_append, List.mem_singleton] at hx
    rcases hx with hx | rfl
    · exact hk x hx
    · exact hkk
  · have hj : es[j]? = some e := by simpa using h2
    refine ⟨es.modify j fun e => { e with key := .int .u64 k, val := v }, clock, ?_, ?_⟩
    · unfold Instr.mapUpdate
      simp [Sem.run_bind, run_underlying und42', run_getObj_map W r es clock hr, check23, Go.MapKept.run_findKey Try.underlying33 h1, hj, h3, Go.MapKept.run_keyThatStays hkk, Go.MapKept.run_setObj_map _ hr, World.putObj]
    · exact Go.MapKept.isKey_modify hk _ _ (fun e' he' => by rw [hj] at he'; cases he'; exact h3.symm)
theorem ents_key : ∀ (ps : List Pgd) (n : Nat), ∀ x ∈ entsFrom n ps, Go.MapKept.IsKey (.int .u64) x.key
  | [], _, x, h => by cases h
  | y :: r, n, x, h => by
    rw [entsFrom] at h
    rcases List.mem_cons.1 h with rfl | h
    · simp [Go.MapKept.IsKey]
    · exact ents_key r (n + 1) x h
theorem Fr.grown {A B : World} {b r i : Nat} {k p : Nat → Int} {Y : Nat → Nat → Int} {base : Nat} {ps : List Pgd} {row : Option Nat} (h : Fr A b r i k p Y base ps) (hg : A.grownBy B row) (hb : row ≠ some b) (hr : row ≠ some r) (hc : ∀ j, row = some j → ∃ o : Obj, A.heap[j]? = some o ∧ o.isCells = false) : Fr B b r i k p Y base ps := by
  have eb := hg.block b (lt_of_cell h.cell) (fun e => hb e.symm)
  refine ⟨h.len, ?_, (hg.block r (lt_of_some h.map) (fun e => hr e.symm)).trans h.map, h.at_, fun j x hx => ?_, h.apart, h.up⟩
  · have := h.cell
    simp only [World.cell?, eb] at this ⊢
    exact this
  · obtain ⟨⟨cur, hcu, hs⟩, hd⟩ := h.data j x hx
    have e := hg.block x.g (lt_of_some hcu) (fun e => by obtain ⟨o, ho, hcc⟩ := hc _ e.symm; rw [hcu] at ho; cases ho; cases hcc)
    exact ⟨⟨cur, e.trans hcu, hs⟩, fun t ht => by have := hd t ht; simp only [World.cell?, e] at this ⊢; exact this⟩
/-- A memory that is being copied. -/
structure Cl (W : World) (b r : Nat) (m : Nat) (k p : Nat → Int) (Y : Nat → Nat → Int) (base : Nat) (pre : List (Fin m)) : Prop where
  cell : W.cell? ⟨b, 0, none⟩ = some (.map (some r))
  map : ∃ es clock, W.heap[r]? = some (.map es clock) ∧ ∀ x ∈ es.toList, Go.MapKept.IsKey (.int .u64) x.key
  fr : pre = (List.finRange m).take pre.length → ∃ qs, Fr W b r pre.length k p Y base qs
theorem Cl.grown {A B : World} {b r m : Nat} {k p : Nat → Int} {Y : Nat → Nat → Int} {base : Nat} {pre : List (Fin m)} {row : Option Nat} (h : Cl A b r m k p Y base pre) (hg : A.grownBy B row) (hb : row ≠ some b) (hr : row ≠ some r) (hc : ∀ j, row = some j → ∃ o : Obj, A.heap[j]? = some o ∧ o.isCells = false) : Cl B b r m k p Y base pre := by
  have eb := hg.block b (lt_of_cell h.cell) (fun e => hb e.symm)
  obtain ⟨es, clock, hm, hk⟩ := h.map
  refine ⟨?_, ⟨es, clock, (hg.block r (lt_of_some hm) (fun e => hr e.symm)).trans hm, hk⟩, fun e => ?_⟩
  · have := h.cell
    simp only [World.cell?, eb] at this ⊢
    exact this
  · obtain ⟨qs, hq⟩ := h.fr e
    exact ⟨qs, hq.grown hg hb hr hc⟩
theorem take_snoc {m : Nat} {pre : List (Fin m)} {x : Fin m} (h : pre ++ [x] = (List.finRange m).take (pre ++ [x]).length) (hlt : pre.length < m) : pre = (List.finRange m).take pre.length ∧ x.1 = pre.length := by
  rw [List.length_append, List.length_singleton, List.take_add_one] at h
  have hl : ((List.finRange m).take pre.length).length = pre.length := by rw [List.length_take, List.length_finRange]; omega
  obtain ⟨h1, h2⟩ := List.append_inj h hl.symm
  refine ⟨h1, ?_⟩
  rw [List.getElem?_eq_getElem (by rw [List.length_finRange]; exact hlt)] at h2
  simp at h2
  rw [h2]
/-- What a round of Clone leaves. -/
structure Grw (w W0 W : World) (b r : Nat) (ps : List Pgd) (k p : Nat → Int) (Y : Nat → Nat → Int) (pre : List (Fin ps.length)) (x : Fin ps.length) (W' : World) : Prop where
  keeps : KeepsFrom W0.heap.size W W'
  keep : KeepO b r (w.heap.size + 1 + 1 + 1) W W'
  boxc : Boxed W' (w.heap.size + 1 + 1) 23 (.pointer (some ⟨w.heap.size + 1, 0, none⟩))
  boxm : Boxed W' (w.heap.size + 1 + 1 + 1) 23 (.pointer (some ⟨b, 0, none⟩))
  cl : Cl W' (w.heap.size + 1) w.heap.size ps.length k p Y w.heap.size (pre ++ [x])
  size : W0.heap.size ≤ W'.heap.size
  below : Below w.heap.size w W'
/-- A page copied, and laid into the map: what a round of Clone does. -/
theorem round16 (b r n : Nat) (ps : List Pgd) (k p : Nat → Int) (Y : Nat → Nat → Int) (base : Nat) (w W0 W W1 : World) (HM : Hid (Fr w b r n k p Y base ps)) (hs0 : W0.heap.size = w.heap.size + 4) (hsz : W0.heap.size ≤ W.heap.size) (pre : List (Fin ps.length)) (x : Fin ps.length) (hlt : pre.length < ps.length) (hW1 : W1 = W ∨ W1 = W.drew) (q : Nat) (xk xp : Int) (xg xc : Nat) (hx : ordP ps x.1 = ⟨xk, xp, xg, xc⟩)
    (HQ : Hid (W.heap[q]? = some (.cells #[.int .u64 xk, .int .i64 xp, .slice (some ⟨xg, 0, none⟩) 4096 xc] 36)))
    (HB : Hid (Below w.heap.size w W)) (HV : Hid (Boxed W (w.heap.size + 1 + 1) 23 (.pointer (some ⟨w.heap.size + 1, 0, none⟩)) ∧ Boxed W (w.heap.size + 1 + 1 + 1) 23 (.pointer (some ⟨b, 0, none⟩)))) (HC : Hid (Cl W (w.heap.size + 1) w.heap.size ps.length k p Y w.heap.size pre)) :
    Calls Try.prog 12 #[.agg #[.int .u64 xk, .int .i64 xp, .slice (some ⟨xg, 0, none⟩) 4096 xc]] W1 fun e w' => ∃ g cap X, e = .returned (.agg #[.int .u64 xk, .int .i64 xp, .slice (some ⟨g, 0, none⟩) 4096 cap]) ∧ w'.cell? ⟨w.heap.size + 1 + 1, 0, none⟩ = some (.pointer (some ⟨w.heap.size + 1, 0, none⟩)) ∧ w'.cell? ⟨w.heap.size + 1, 0, none⟩ = some (.map (some w.heap.size)) ∧ w'.cell? ⟨q, 0, none⟩ = some (.int .u64 xk) ∧ w'.cell? ⟨q, 1, none⟩ = some (.int .i64 xp) ∧ w'.cell? ⟨q, 2, none⟩ = some (.slice (some ⟨xg, 0, none⟩) 4096 xc) ∧
      (Instr.mapUpdate 39 (.map (some w.heap.size)) (.int .u64 xk) (.agg #[.int .u64 xk, .int .i64 xp, .slice (some ⟨g, 0, none⟩) 4096 cap])).run Try.prog w' = .ok () (w'.putObj w.heap.size X) ∧ Hid (Grw w W0 W b r ps k p Y pre x (w'.putObj w.heap.size X)) := by
  have l1 := lt_of_cell HM.out.cell
  have l3 := lt_of_some HM.out.map
  have hW1s : W1.heap.size = W.heap.size := by rcases hW1 with rfl | rfl <;> rfl
  have hWB : Below W.heap.size W W1 := by
    rcases hW1 with rfl | rfl
    · exact Below.refl _ _
    · exact (Below.refl _ _).drew
  have hord := HM.out.ordP x.1 x.2
  rw [hx] at hord
  have hget : ps[x.1]? = some ⟨xk, xp, xg, xc⟩ := by rw [List.getElem?_eq_getElem x.2, ← hord]
  obtain ⟨ek, ep, -, -⟩ := HM.out.at_ x.1 _ hget
  dsimp only at ek ep
  obtain ⟨⟨cu, hcu, -⟩, hdat0⟩ := HM.out.data x.1 _ hget
  dsimp only at hcu hdat0
  have t := copied29 xk xp xg 0 xc (Y x.1) W1 (fun j hj => by
    rw [Nat.zero_add]
    have e1 := (HB.out.cell (p := ⟨xg, j, none⟩) (lt_of_some hcu)).trans (hdat0 j hj)
    exact (hWB.cell (p := ⟨xg, j, none⟩) (lt_of_cell e1)).trans e1)
  refine (t.mono ?_ : Calls _ _ _ _ _)
  rintro e w4 ⟨g, cap, cur, rfl, hg4, hcap, hcur, hcsz, hdat, hb4⟩
  rw [hW1s] at hb4 hg4
  have HB4 : Below W.heap.size W w4 := hWB.trans hb4
  have hz4 : W.heap.size ≤ w4.heap.size := HB4.size
  have G1 : W.grownBy w4 none := grown_of_below HB4
  have hC4 := HC.out.grown G1 (by intro e; cases e) (by intro e; cases e) (by intro j e; cases e)
  have hv4 := HV.out.1.kept G1 (by intro e; cases e)
  have hm4 := HV.out.2.kept G1 (by intro e; cases e)
  obtain ⟨es, clock, hmap, hkey⟩ := hC4.map
  have hq4 := (HB4.block q (lt_of_some HQ.out)).trans HQ.out
  -- the map behind the store
  obtain ⟨X, hX, hXm, hXf⟩ : ∃ X, (Instr.mapUpdate 39 (.map (some w.heap.size)) (.int .u64 xk) (.agg #[.int .u64 xk, .int .i64 xp, .slice (some ⟨g, 0, none⟩) 4096 cap])).run Try.prog w4 = .ok () (w4.putObj w.heap.size X) ∧ (∃ es clock, X = .map es clock ∧ ∀ x ∈ es.toList, Go.MapKept.IsKey (.int .u64) x.key) ∧ (pre ++ [x] = (List.finRange ps.length).take (pre ++ [x]).length → ∃ qs, Fr (w4.putObj w.heap.size X) (w.heap.size + 1) w.heap.size (pre ++ [x]).length k p Y w.heap.size qs) := by
    by_cases hp : pre ++ [x] = (List.finRange ps.length).take (pre ++ [x]).length
    · obtain ⟨hp1, hp2⟩ := take_snoc hp hlt
      obtain ⟨qs, hF⟩ := HC.out.fr hp1
      have hup : 0 < pre.length → k (pre.length - 1) < k pre.length := by
        intro h0
        have e1 := HM.out.at_ (pre.length - 1) ps[pre.length - 1] (List.getElem?_eq_getElem (by omega))
        have e2 := HM.out.at_ pre.length ps[pre.length] (List.getElem?_eq_getElem (by omega))
        have e3 := (List.pairwise_iff_getElem.1 HM.out.up) (pre.length - 1) pre.length (by omega) (by omega) (by omega)
        rw [e1.1, e2.1] at e3
        exact e3
      rw [hp2] at ek ep hdat
      have hF' : W.heap.size ≤ g := hg4
      have hu := upd42 w.heap.size xk (.agg #[.int .u64 xk, .int .i64 xp, .slice (some ⟨g, 0, none⟩) 4096 cap]) _ _ w4 ((HB4.block _ (lt_of_some hF.map)).trans hF.map) (by rw [List.toList_toArray, ek]; exact find_none _ _ (pg_none_of (hF.below_k hup)) 0 0)
      have hsn := hF.snoc hup g cap cur HB4 hF' HB.out.size hcap hcur hcsz hdat (by omega)
      refine ⟨_, hu, ⟨_, _, rfl, ?_⟩, fun _ => ⟨_, by rw [List.length_append, List.length_singleton, ek, ep]; exact hsn⟩⟩
      intro y hy
      simp only [Array.toList_push, List.mem_append, List.mem_singleton] at hy
      rcases hy with hy | rfl
      · exact ents_key _ _ y (by simpa using hy)
      · simp [Go.MapKept.IsKey]
    · obtain ⟨es', clock', h1, h2⟩ := upd_any w.heap.size xk (.agg #[.int .u64 xk, .int .i64 xp, .slice (some ⟨g, 0, none⟩) 4096 cap]) es clock w4 hmap hkey
      exact ⟨_, h1, ⟨_, _, rfl, h2⟩, fun h => absurd h hp⟩
  refine ⟨g, cap, X, rfl, hv4.cell, hC4.cell, by simp [World.cell?, hq4], by simp [World.cell?, hq4], by simp [World.cell?, hq4], hX, ?_⟩
  have G4 := grownBy_putObj' w4 w.heap.size X
  have hne : ∀ y : Nat, y ≠ w.heap.size → (w4.putObj w.heap.size X).heap[y]? = w4.heap[y]? := fun y hy => World.putObj_heap_other hy
  have hsw : (w4.putObj w.heap.size X).heap.size = w4.heap.size := by simp
  have hlow : ∀ y, y < w.heap.size → (w4.putObj w.heap.size X).heap[y]? = W.heap[y]? := fun y hy => (hne y (by omega)).trans (HB4.block y (by omega))
  refine (⟨?_, ?_, hv4.kept G4 (by intro e; have := Option.some.inj e; omega), hm4.kept G4 (by intro e; have := Option.some.inj e; omega), ⟨?_, ?_, hXf⟩, by omega, ?_⟩ : Grw w W0 W b r ps k p Y pre x (w4.putObj w.heap.size X))
  · exact (KeepsFrom.of_grownBy G1 (by intro j e; cases e)).trans (KeepsFrom.of_grownBy G4 (by intro j e; have := Option.some.inj e; omega))
  · refine ⟨by omega, hlow r l3, by simp only [World.cell?, hlow b l1], ?_, fun y cur' hy => ?_⟩
    · have e1 := (hm4.kept G4 (by intro e; have := Option.some.inj e; omega) : Boxed (w4.putObj w.heap.size X) (w.heap.size + 1 + 1 + 1) 23 (.pointer (some ⟨b, 0, none⟩)))
      rw [e1.cell, HV.out.2.cell]
    · have e4 := (HB4.block y (lt_of_some hy)).trans hy
      refine (hne y ?_).trans e4
      intro e
      rw [e, hmap] at e4
      cases e4
  · have := hC4.cell
    simp only [World.cell?, hne (w.heap.size + 1) (by omega)] at this ⊢
    exact this
  · obtain ⟨es', clock', rfl, hk'⟩ := hXm
    exact ⟨es', clock', World.putObj_heap_same (lt_of_some hmap), hk'⟩
  · exact below_putObj (HB.out.trans (HB4.mono HB.out.size)) (Nat.le_refl _) _
end Go.Proofs.Ytndbkkldfinggaa
