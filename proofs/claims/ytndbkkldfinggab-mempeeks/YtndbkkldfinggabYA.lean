/- A memory's copy (Clone). -/
import Derived.Test.YtndbkkldfinggabV4
import Derived.RangeFuncWrites
namespace Go.Proofs.Ytndbkkldfinggab
open Go.RowKit Go.Shelf
attribute [local go_sem] Oper.semAt_some
/-- A store into a map whose keys are numbers, whatever lies there. -/
theorem upd_any (r : Nat) (k : Int) (v : Value) (es : Array MapEntry) (clock : Nat) (W : World) (hr : W.heap[r]? = some (.map es clock)) (hk : ∀ x ∈ es.toList, Go.MapKept.IsKey (.int .u64) x.key) : ∃ es' clock', (Instr.mapUpdate 65 (.map (some r)) (.int .u64 k) v).run Try.prog W = .ok () (W.putObj r (.map es' clock')) ∧ ∀ x ∈ es'.toList, Go.MapKept.IsKey (.int .u64) x.key := by
  have hkk : Go.MapKept.IsKey (.int .u64) (.int .u64 k) := by simp [Go.MapKept.IsKey]
  rcases Go.MapKept.findNow_spec hkk es.toList 0 hk with ⟨h1, h2⟩ | ⟨j, e, h1, h2, h3⟩
  · refine ⟨_, _, upd42 r k v es clock W hr h1, fun x hx => ?_⟩
    simp only [Array.toList_push, List.mem_append, List.mem_singleton] at hx
    rcases hx with hx | rfl
    · exact hk x hx
    · exact hkk
  · have hj : es[j]? = some e := by simpa using h2
    refine ⟨es.modify j fun e => { e with key := .int .u64 k, val := v }, clock, ?_, ?_⟩
    · unfold Instr.mapUpdate
      simp [Sem.run_bind, run_underlying und42', run_getObj_map W r es clock hr, check23, Go.MapKept.run_findKey Try.underlying23 h1, hj, h3, Go.MapKept.run_keyThatStays hkk, Go.MapKept.run_setObj_map _ hr, World.putObj]
    · exact Go.MapKept.isKey_modify hk _ _ (fun e' he' => by rw [hj] at he'; cases he'; exact h3.symm)
theorem ents_key : ∀ (ps : List Pgd) (n : Nat), ∀ x ∈ entsFrom n ps, Go.MapKept.IsKey (.int .u64) x.key
  | [], _, x, h => by cases h
  | y :: r, n, x, h => by
    rw [entsFrom] at h
    rcases List.mem_cons.1 h with rfl | h
    · simp [Go.MapKept.IsKey]
    · exact ents_key r (n + 1) x h
theorem Fr.grown {A B : World} {b r i : Nat} {k p : Nat → Int} {Y : Nat → Nat → Int} {base : Nat} {ps : List Pgd} {row : Option Nat} (h : Fr A b r i k p Y base ps) (hg : A.grownBy B row) (hb : row ≠ some b) (hr : row ≠ some r) (hc : ∀ j, row = some j → ∃ o : Obj, A.heap[j]? = some o ∧ o.isCells = false) : Fr B b r i k p Y base ps := by
  have eb := hg.block b (lt_of_cell h.cell) (fun e => hb e.symm)
  refine ⟨h.len, ?_, (hg.block r (lt_of_some h.map) (fun e => hr e.symm)).trans h.map, h.at_, fun j x hx => ?_, h.apart, h.up⟩
  · have := h.cell
    simp only [World.cell?, eb] at this ⊢
    exact this
  · obtain ⟨⟨cur, hcu, hs⟩, hd⟩ := h.data j x hx
    have e := hg.block x.g (lt_of_some hcu) (fun e => by obtain ⟨o, ho, hcc⟩ := hc _ e.symm; rw [hcu] at ho; cases ho; cases hcc)
    exact ⟨⟨cur, e.trans hcu, hs⟩, fun t ht => by have := hd t ht; simp only [World.cell?, e] at this ⊢; exact this⟩
/-- A memory that is being copied. -/
structure Cl (W : World) (b r : Nat) (m : Nat) (k p : Nat → Int) (Y : Nat → Nat → Int) (base : Nat) (pre : List (Fin m)) : Prop where
  cell : W.cell? ⟨b, 0, none⟩ = some (.map (some r))
  map : ∃ es clock, W.heap[r]? = some (.map es clock) ∧ ∀ x ∈ es.toList, Go.MapKept.IsKey (.int .u64) x.key
  fr : pre = (List.finRange m).take pre.length → ∃ qs, Fr W b r pre.length k p Y base qs
theorem Cl.grown {A B : World} {b r m : Nat} {k p : Nat → Int} {Y : Nat → Nat → Int} {base : Nat} {pre : List (Fin m)} {row : Option Nat} (h : Cl A b r m k p Y base pre) (hg : A.grownBy B row) (hb : row ≠ some b) (hr : row ≠ some r) (hc : ∀ j, row = some j → ∃ o : Obj, A.heap[j]? = some o ∧ o.isCells = false) : Cl B b r m k p Y base pre := by
  have eb := hg.block b (lt_of_cell h.cell) (fun e => hb e.symm)
  obtain ⟨es, clock, hm, hk⟩ := h.map
  refine ⟨?_, ⟨es, clock, (hg.block r (lt_of_some hm) (fun e => hr e.symm)).trans hm, hk⟩, fun e => ?_⟩
  · have := h.cell
    simp only [World.cell?, eb] at this ⊢
    exact this
  · obtain ⟨qs, hq⟩ := h.fr e
    exact ⟨qs, hq.grown hg hb hr hc⟩
theorem take_snoc {m : Nat} {pre : List (Fin m)} {x : Fin m} (h : pre ++ [x] = (List.finRange m).take (pre ++ [x]).length) (hlt : pre.length < m) : pre = (List.finRange m).take pre.length ∧ x.1 = pre.length := by
  rw [List.length_append, List.length_singleton, List.take_add_one] at h
  have hl : ((List.finRange m).take pre.length).length = pre.length := by rw [List.length_take, List.length_finRange]; omega
  obtain ⟨h1, h2⟩ := List.append_inj h hl.symm
  refine ⟨h1, ?_⟩
  rw [List.getElem?_eq_getElem (by rw [List.length_finRange]; exact hlt)] at h2
  simp at h2
  rw [h2]
/-- What a round of Clone leaves. -/
structure Grw (w W0 W : World) (b r : Nat) (ps : List Pgd) (k p : Nat → Int) (Y : Nat → Nat → Int) (pre : List (Fin ps.length)) (x : Fin ps.length) (W' : World) : Prop where
  keeps : KeepsFrom W0.heap.size W W'
  keep : KeepO b r (w.heap.size + 1 + 1 + 1) W W'
  boxc : Boxed W' (w.heap.size + 1 + 1) 26 (.pointer (some ⟨w.heap.size + 1, 0, none⟩))
  boxm : Boxed W' (w.heap.size + 1 + 1 + 1) 26 (.pointer (some ⟨b, 0, none⟩))
  cl : Cl W' (w.heap.size + 1) w.heap.size ps.length k p Y w.heap.size (pre ++ [x])
  size : W0.heap.size ≤ W'.heap.size
  below : Below w.heap.size w W'
/-- A page copied, and laid into the map: what a round of Clone does. -/
theorem round16 (b r n : Nat) (ps : List Pgd) (k p : Nat → Int) (Y : Nat → Nat → Int) (base : Nat) (w W0 W W1 : World) (HM : Hid (Fr w b r n k p Y base ps)) (hs0 : W0.heap.size = w.heap.size + 4) (hsz : W0.heap.size ≤ W.heap.size) (pre : List (Fin ps.length)) (x : Fin ps.length) (hlt : pre.length < ps.length) (hW1 : W1 = W ∨ W1 = W.drew) (q : Nat) (xk xp : Int) (xg xc : Nat) (hx : ordP ps x.1 = ⟨xk, xp, xg, xc⟩)
    (HQ : Hid (W.heap[q]? = some (.cells #[.int .u64 xk, .int .i64 xp, .slice (some ⟨xg, 0, none⟩) 4096 xc] 62)))
    (HB : Hid (Below w.heap.size w W)) (HV : Hid (Boxed W (w.heap.size + 1 + 1) 26 (.pointer (some ⟨w.heap.size + 1, 0, none⟩)) ∧ Boxed W (w.heap.size + 1 + 1 + 1) 26 (.pointer (some ⟨b, 0, none⟩)))) (HC : Hid (Cl W (w.heap.size + 1) w.heap.size ps.length k p Y w.heap.size pre)) :
    Calls Try.prog 29 #[.agg #[.int .u64 xk, .int .i64 xp, .slice (some ⟨xg, 0, none⟩) 4096 xc]] W1 fun e w' => ∃ g cap X, e = .returned (.agg #[.int .u64 xk, .int .i64 xp, .slice (some ⟨g, 0, none⟩) 4096 cap]) ∧ w'.cell? ⟨w.heap.size + 1 + 1, 0, none⟩ = some (.pointer (some ⟨w.heap.size + 1, 0, none⟩)) ∧ w'.cell? ⟨w.heap.size + 1, 0, none⟩ = some (.map (some w.heap.size)) ∧ w'.cell? ⟨q, 0, none⟩ = some (.int .u64 xk) ∧ w'.cell? ⟨q, 1, none⟩ = some (.int .i64 xp) ∧ w'.cell? ⟨q, 2, none⟩ = some (.slice (some ⟨xg, 0, none⟩) 4096 xc) ∧
      (Instr.mapUpdate 65 (.map (some w.heap.size)) (.int .u64 xk) (.agg #[.int .u64 xk, .int .i64 xp, .slice (some ⟨g, 0, none⟩) 4096 cap])).run Try.prog w' = .ok () (w'.putObj w.heap.size X) ∧ Hid (Grw w W0 W b r ps k p Y pre x (w'.putObj w.heap.size X)) := by
  have l1 := lt_of_cell HM.out.cell
  have l3 := lt_of_some HM.out.map
  have hW1s : W1.heap.size = W.heap.size := by rcases hW1 with rfl | rfl <;> rfl
  have hWB : Below W.heap.size W W1 := by
    rcases hW1 with rfl | rfl
    · exact Below.refl _ _
    · exact (Below.refl _ _).drew
  have hord := HM.out.ordP x.1 x.2
  rw [hx] at hord
  have hget : ps[x.1]? = some ⟨xk, xp, xg, xc⟩ := by rw [List.getElem?_eq_getElem x.2, ← hord]
  obtain ⟨ek, ep, -, -⟩ := HM.out.at_ x.1 _ hget
  dsimp only at ek ep
  obtain ⟨⟨cu, hcu, -⟩, hdat0⟩ := HM.out.data x.1 _ hget
  dsimp only at hcu hdat0
  have t := copied29 xk xp xg 0 xc (Y x.1) W1 (fun j hj => by
    rw [Nat.zero_add]
    have e1 := (HB.out.cell (p := ⟨xg, j, none⟩) (lt_of_some hcu)).trans (hdat0 j hj)
    exact (hWB.cell (p := ⟨xg, j, none⟩) (lt_of_cell e1)).trans e1)
  refine (t.mono ?_ : Calls _ _ _ _ _)
  rintro e w4 ⟨g, cap, cur, rfl, hg4, hcap, hcur, hcsz, hdat, hb4⟩
  rw [hW1s] at hb4 hg4
  have HB4 : Below W.heap.size W w4 := hWB.trans hb4
  have hz4 : W.heap.size ≤ w4.heap.size := HB4.size
  have G1 : W.grownBy w4 none := grown_of_below HB4
  have hC4 := HC.out.grown G1 (by intro e; cases e) (by intro e; cases e) (by intro j e; cases e)
  have hv4 := HV.out.1.kept G1 (by intro e; cases e)
  have hm4 := HV.out.2.kept G1 (by intro e; cases e)
  obtain ⟨es, clock, hmap, hkey⟩ := hC4.map
  have hq4 := (HB4.block q (lt_of_some HQ.out)).trans HQ.out
  -- the map behind the store
  obtain ⟨X, hX, hXm, hXf⟩ : ∃ X, (Instr.mapUpdate 65 (.map (some w.heap.size)) (.int .u64 xk) (.agg #[.int .u64 xk, .int .i64 xp, .slice (some ⟨g, 0, none⟩) 4096 cap])).run Try.prog w4 = .ok () (w4.putObj w.heap.size X) ∧ (∃ es clock, X = .map es clock ∧ ∀ x ∈ es.toList, Go.MapKept.IsKey (.int .u64) x.key) ∧ (pre ++ [x] = (List.finRange ps.length).take (pre ++ [x]).length → ∃ qs, Fr (w4.putObj w.heap.size X) (w.heap.size + 1) w.heap.size (pre ++ [x]).length k p Y w.heap.size qs) := by
    by_cases hp : pre ++ [x] = (List.finRange ps.length).take (pre ++ [x]).length
    · obtain ⟨hp1, hp2⟩ := take_snoc hp hlt
      obtain ⟨qs, hF⟩ := HC.out.fr hp1
      have hup : 0 < pre.length → k (pre.length - 1) < k pre.length := by
        intro h0
        have e1 := HM.out.at_ (pre.length - 1) ps[pre.length - 1] (List.getElem?_eq_getElem (by omega))
        have e2 := HM.out.at_ pre.length ps[pre.length] (List.getElem?_eq_getElem (by omega))
        have e3 := (List.pairwise_iff_getElem.1 HM.out.up) (pre.length - 1) pre.length (by omega) (by omega) (by omega)
        rw [e1.1, e2.1] at e3
        exact e3
      rw [hp2] at ek ep hdat
      have hF' : W.heap.size ≤ g := hg4
      have hu := upd42 w.heap.size xk (.agg #[.int .u64 xk, .int .i64 xp, .slice (some ⟨g, 0, none⟩) 4096 cap]) _ _ w4 ((HB4.block _ (lt_of_some hF.map)).trans hF.map) (by rw [List.toList_toArray, ek]; exact find_none _ _ (pg_none_of (hF.below_k hup)) 0 0)
      have hsn := hF.snoc hup g cap cur HB4 hF' HB.out.size hcap hcur hcsz hdat (by omega)
      refine ⟨_, hu, ⟨_, _, rfl, ?_⟩, fun _ => ⟨_, by rw [List.length_append, List.length_singleton, ek, ep]; exact hsn⟩⟩
      intro y hy
      simp only [Array.toList_push, List.mem_append, List.mem_singleton] at hy
      rcases hy with hy | rfl
      · exact ents_key _ _ y (by simpa using hy)
      · simp [Go.MapKept.IsKey]
    · obtain ⟨es', clock', h1, h2⟩ := upd_any w.heap.size xk (.agg #[.int .u64 xk, .int .i64 xp, .slice (some ⟨g, 0, none⟩) 4096 cap]) es clock w4 hmap hkey
      exact ⟨_, h1, ⟨_, _, rfl, h2⟩, fun h => absurd h hp⟩
  refine ⟨g, cap, X, rfl, hv4.cell, hC4.cell, by simp [World.cell?, hq4], by simp [World.cell?, hq4], by simp [World.cell?, hq4], hX, ?_⟩
  have G4 := grownBy_putObj' w4 w.heap.size X
  have hne : ∀ y : Nat, y ≠ w.heap.size → (w4.putObj w.heap.size X).heap[y]? = w4.heap[y]? := fun y hy => World.putObj_heap_other hy
  have hsw : (w4.putObj w.heap.size X).heap.size = w4.heap.size := by simp
  have hlow : ∀ y, y < w.heap.size → (w4.putObj w.heap.size X).heap[y]? = W.heap[y]? := fun y hy => (hne y (by omega)).trans (HB4.block y (by omega))
  refine (⟨?_, ?_, hv4.kept G4 (by intro e; have := Option.some.inj e; omega), hm4.kept G4 (by intro e; have := Option.some.inj e; omega), ⟨?_, ?_, hXf⟩, by omega, ?_⟩ : Grw w W0 W b r ps k p Y pre x (w4.putObj w.heap.size X))
  · exact (KeepsFrom.of_grownBy G1 (by intro j e; cases e)).trans (KeepsFrom.of_grownBy G4 (by intro j e; have := Option.some.inj e; omega))
  · refine ⟨by omega, hlow r l3, by simp only [World.cell?, hlow b l1], ?_, fun y cur' hy => ?_⟩
    · have e1 := (hm4.kept G4 (by intro e; have := Option.some.inj e; omega) : Boxed (w4.putObj w.heap.size X) (w.heap.size + 1 + 1 + 1) 26 (.pointer (some ⟨b, 0, none⟩)))
      rw [e1.cell, HV.out.2.cell]
    · have e4 := (HB4.block y (lt_of_some hy)).trans hy
      refine (hne y ?_).trans e4
      intro e
      rw [e, hmap] at e4
      cases e4
  · have := hC4.cell
    simp only [World.cell?, hne (w.heap.size + 1) (by omega)] at this ⊢
    exact this
  · obtain ⟨es', clock', rfl, hk'⟩ := hXm
    exact ⟨es', clock', World.putObj_heap_same (lt_of_some hmap), hk'⟩
  · exact below_putObj (HB.out.trans (HB4.mono HB.out.size)) (Nat.le_refl _) _
theorem via {F : Fence} {n : Nat} {P : Program} {md : Region.Mode} {ops : Array Oper} {Q : Exit → Act → World → Prop} {fuel : Nat} {listed : Array Bool} {a : Act} {w : World} (h : ∀ G : Nat → Array Bool → Act → World → Prop, G = wpAnyIn F n P md ops Q → G fuel listed a w) : wpAnyIn F n P md ops Q fuel listed a w := h _ rfl
theorem vb {F : Fence} {n : Nat} {P : Program} {md : Region.Mode} {ops : Array Oper} {Q : Exit → Act → World → Prop} {fuel : Nat} {listed : Array Bool} {a : Act} {w : World} {G : Nat → Array Bool → Act → World → Prop} (hG : G = wpAnyIn F n P md ops Q) (h : G fuel listed a w) : wpAnyIn F n P md ops Q fuel listed a w := hG ▸ h
theorem clone_world (b : Nat) (w : World) : ∃ W0, ((((w.alloc (.map #[] 0)).alloc (.cells #[.map (some w.heap.size)] 67)).alloc (.cells #[.pointer (some ⟨w.heap.size + 1, 0, none⟩)] 26)).alloc (.cells #[.pointer (some ⟨b, 0, none⟩)] 26)) = W0 ∧ W0.heap.size = w.heap.size + 4 ∧ Boxed W0 (w.heap.size + 1 + 1 + 1) 26 (.pointer (some ⟨b, 0, none⟩)) ∧ Boxed W0 (w.heap.size + 1 + 1) 26 (.pointer (some ⟨w.heap.size + 1, 0, none⟩)) ∧ W0.cell? ⟨w.heap.size + 1, 0, none⟩ = some (.map (some w.heap.size)) ∧ W0.heap[w.heap.size]? = some (.map #[] 0) ∧ Below w.heap.size w W0 := by
  refine ⟨_, rfl, by simp, ?_, ?_, by go_simp, heap_on (heap_on (heap_on (heap_at w _) _) _) _, ?_⟩
  · have := Boxed.new (((w.alloc (.map #[] 0)).alloc (.cells #[.map (some w.heap.size)] 67)).alloc (.cells #[.pointer (some ⟨w.heap.size + 1, 0, none⟩)] 26)) 26 (.pointer (some ⟨b, 0, none⟩))
    simpa using this
  · refine Boxed.alloc ?_ _
    have := Boxed.new ((w.alloc (.map #[] 0)).alloc (.cells #[.map (some w.heap.size)] 67)) 26 (.pointer (some ⟨w.heap.size + 1, 0, none⟩))
    simpa using this
  · exact ((((Below.refl _ w).alloc (Nat.le_refl _) _).alloc (by simp) _).alloc (by simp; omega) _).alloc (by simp; omega) _
set_option maxRecDepth 100000 in
set_option maxHeartbeats 2000000 in
theorem clone16 (b r n : Nat) (ps : List Pgd) (k p : Nat → Int) (Y : Nat → Nat → Int) (base : Nat) (w : World) (h : Fr w b r n k p Y base ps) (hlen : ps.length ≤ 65536) :
    Calls Try.prog 16 #[.pointer (some ⟨b, 0, none⟩)] w fun e w' => e = .returned (.pointer (some ⟨w.heap.size + 1, 0, none⟩)) ∧ (∃ qs, Fr w' (w.heap.size + 1) w.heap.size n k p Y w.heap.size qs) ∧ Below w.heap.size w w' := by
  have HM : Hid (Fr w b r n k p Y base ps) := h
  have l1 := lt_of_cell h.cell
  have l3 := lt_of_some h.map
  clear h
  refine (callsIn_wide (n := 9)).1 ?_
  refine callsIn_of_wp_marks Try.func16 rfl trivial ?_ rfl
  simp only [Try.ntmps16, List.size_toArray, List.length_cons, List.length_nil, Nat.reduceAdd, Nat.reduceSub, Array.replicate_succ, Array.replicate_zero, List.push_toArray, List.append_toArray, List.nil_append, List.cons_append]
  gi_wp2_with (first | (refine ⟨trivial, ?_⟩; gi_at_call 27; refine (callsIn_wide.2 (new21 _)).mono ?_; rintro e w' ⟨rfl, rfl⟩) | (refine ⟨trivial, ?_⟩; gi_at_call 36; refine (callsIn_wide.2 (inOrder36 b _)).mono ?_; rintro e w' ⟨rfl, rfl⟩))
  obtain ⟨W0, hW0, hs0, m0, c0, f2, f3, hB0⟩ := clone_world b w
  rw [hW0]
  clear hW0
  have m1 : W0.cell? ⟨b, 0, none⟩ = some (.map (some r)) := (hB0.cell (p := ⟨b, 0, none⟩) l1).trans HM.out.cell
  have m2 : W0.heap[r]? = some (.map (entsFrom 0 ps).toArray ps.length) := (hB0.block r l3).trans HM.out.map
  refine wpIn_rangeFunc_ownH rfl (by omega) (gf := 50) (lb := #[.pointer (some ⟨w.heap.size + 1 + 1 + 1, 0, none⟩)]) rfl trivial (enters_of Try.func50 (by kernel_rfl) rfl)
    (order50 8 b r (w.heap.size + 1 + 1 + 1) ps W0 (by omega) m0.cell m1 m2 hlen)
    (fun h k => h.trans k)
    (fun W l o o' hl ho hc _ => KeepO.put (B := W0.heap.size) W l o o' (by omega) (by omega) (by omega) hl ho hc)
    (Below.refl _ _) (fun _ => rfl)
    (fun (pre : List (Fin ps.length)) W => (Boxed W (w.heap.size + 1 + 1) 26 (.pointer (some ⟨w.heap.size + 1, 0, none⟩)) ∧ Boxed W (w.heap.size + 1 + 1 + 1) 26 (.pointer (some ⟨b, 0, none⟩))) ∧ Cl W (w.heap.size + 1) w.heap.size ps.length k p Y w.heap.size pre ∧ W0.heap.size ≤ W.heap.size ∧ Below w.heap.size w W)
    (fun _ _ _ => False)
    (fun s A B row hh hg hr => by
      obtain ⟨⟨hv, hvm⟩, hc, hsz, hB⟩ := hh
      exact ⟨⟨hv.kept hg (by intro e; have := (hr _ e.symm).1; omega), hvm.kept hg (by intro e; have := (hr _ e.symm).1; omega)⟩, hc.grown hg (by intro e; have := (hr _ e).1; omega) (by intro e; have := (hr _ e).1; omega) (fun j e => by obtain ⟨_, o, ho, hcc⟩ := hr j e; exact ⟨o, ho, hcc⟩), Nat.le_trans hsz hg.size, hB.grown hg hB.size (fun k e => by have := (hr k e).1; omega)⟩)
    (fun _ _ _ _ _ hs _ _ => hs)
    ⟨⟨c0, m0⟩, ⟨f2, ⟨#[], 0, f3, by simp⟩, fun _ => ⟨[], rfl, f2, f3, fun j x h => by simp at h, fun j x h => by simp at h, List.Pairwise.nil, List.Pairwise.nil⟩⟩, Nat.le_refl _, hB0⟩
    (fun x a' W => ∃ q, W0.heap.size ≤ q ∧ W.heap[q]? = some (.cells #[.int .u64 (ordP ps x.1).k, .int .i64 (ordP ps x.1).p, .slice (some ⟨(ordP ps x.1).g, 0, none⟩) 4096 (ordP ps x.1).c] 62) ∧ a' = { tmps := #[.pointer (some ⟨b, 0, none⟩), undef, .pointer none, .pointer (some ⟨w.heap.size + 1 + 1, 0, none⟩), .pointer (some ⟨q, 0, none⟩), .pointer (some ⟨w.heap.size + 1, 0, none⟩), .pointer (some ⟨b, 0, none⟩), .func (.func 50) #[] #[.pointer (some ⟨w.heap.size + 1 + 1 + 1, 0, none⟩)], pval (ordP ps x.1), undef, undef, undef, undef, undef, undef, undef, undef, undef], defers := [] })
    (fun x a' s A B row hh hg hr => by obtain ⟨q, h1, h2, h3⟩ := hh; exact ⟨q, h1, (hg.block q (lt_of_some h2) (fun e => by obtain ⟨_, o, ho, hc⟩ := hr q e.symm; rw [h2] at ho; cases ho; cases hc)).trans h2, h3⟩)
    ?assign ?body ?done ?stop
  case assign =>
    intro l pre x W K hI hK
    obtain ⟨⟨i1, im⟩, ic, hsz, hB⟩ := hI
    have HK : Hid (∀ a' W', KeepsFrom W0.heap.size W W' → KeepO b r (w.heap.size + 1 + 1 + 1) W W' → ((Boxed W' (w.heap.size + 1 + 1) 26 (.pointer (some ⟨w.heap.size + 1, 0, none⟩)) ∧ Boxed W' (w.heap.size + 1 + 1 + 1) 26 (.pointer (some ⟨b, 0, none⟩))) ∧ Cl W' (w.heap.size + 1) w.heap.size ps.length k p Y w.heap.size pre ∧ W0.heap.size ≤ W'.heap.size ∧ Below w.heap.size w W') → _ → K a' W') := hK
    have HI : Hid ((Boxed W (w.heap.size + 1 + 1) 26 (.pointer (some ⟨w.heap.size + 1, 0, none⟩)) ∧ Boxed W (w.heap.size + 1 + 1 + 1) 26 (.pointer (some ⟨b, 0, none⟩))) ∧ Cl W (w.heap.size + 1) w.heap.size ps.length k p Y w.heap.size pre ∧ Below w.heap.size w W) := ⟨⟨i1, im⟩, ic, hB⟩
    clear hK i1 im ic hB
    unfold pval
    gi_wp2
    have hg := World.grownBy_alloc W (.cells #[.int .u64 (ordP ps x.1).k, .int .i64 (ordP ps x.1).p, .slice (some ⟨(ordP ps x.1).g, 0, none⟩) 4096 (ordP ps x.1).c] 62) none
    obtain ⟨⟨i1, im⟩, ic, hB⟩ := HI.out
    exact HK.out _ _ (KeepsFrom.of_grownBy hg (by intro k e; cases e)) (KeepO.grown hg (by omega) (by omega) (by omega)) ⟨⟨i1.alloc _, im.alloc _⟩, ic.grown hg (by intro e; cases e) (by intro e; cases e) (by intro j e; cases e), by simp; omega, hB.alloc (by omega) _⟩ ⟨W.heap.size, hsz, heap_at _ _, rfl⟩
  case body =>
    rintro l pre x a' W hl0 _ ⟨⟨hv, hvm⟩, hcl, hsz, hB⟩ ⟨q, hq, hqc, rfl⟩ hlt
    unfold pval
    obtain ⟨xx, hxx⟩ : ∃ xx, ordP ps x.1 = xx := ⟨_, rfl⟩
    have HXX : Hid (ordP ps x.1 = xx) := hxx
    rw [hxx] at hqc ⊢
    clear hxx
    obtain ⟨xk, xp, xg, xc⟩ := xx
    dsimp only at hqc ⊢
    have hc := hv.cell
    have hcc := hcl.cell
    have c2 : W.cell? ⟨q, 0, none⟩ = some (.int .u64 xk) := by simp [World.cell?, hqc]
    have c3 : W.cell? ⟨q, 1, none⟩ = some (.int .i64 xp) := by simp [World.cell?, hqc]
    have c4 : W.cell? ⟨q, 2, none⟩ = some (.slice (some ⟨xg, 0, none⟩) 4096 xc) := by simp [World.cell?, hqc]
    have HCo : Hid (∀ W1, (W1 = W ∨ W1 = W.drew) → Calls Try.prog 29 #[.agg #[.int .u64 xk, .int .i64 xp, .slice (some ⟨xg, 0, none⟩) 4096 xc]] W1 fun e w' => ∃ g cap X, e = .returned (.agg #[.int .u64 xk, .int .i64 xp, .slice (some ⟨g, 0, none⟩) 4096 cap]) ∧ w'.cell? ⟨w.heap.size + 1 + 1, 0, none⟩ = some (.pointer (some ⟨w.heap.size + 1, 0, none⟩)) ∧ w'.cell? ⟨w.heap.size + 1, 0, none⟩ = some (.map (some w.heap.size)) ∧ w'.cell? ⟨q, 0, none⟩ = some (.int .u64 xk) ∧ w'.cell? ⟨q, 1, none⟩ = some (.int .i64 xp) ∧ w'.cell? ⟨q, 2, none⟩ = some (.slice (some ⟨xg, 0, none⟩) 4096 xc) ∧
      (Instr.mapUpdate 65 (.map (some w.heap.size)) (.int .u64 xk) (.agg #[.int .u64 xk, .int .i64 xp, .slice (some ⟨g, 0, none⟩) 4096 cap])).run Try.prog w' = .ok () (w'.putObj w.heap.size X) ∧ Hid (Grw w W0 W b r ps k p Y pre x (w'.putObj w.heap.size X))) := fun W1 hW1 => round16 b r n ps k p Y base w W0 W W1 HM hs0 hsz pre x hlt hW1 q xk xp xg xc HXX.out hqc hB ⟨hv, hvm⟩ hcl
    clear hv hvm hcl hB hqc
    gi_wp2_with fail
    clear m0 c0 f2 f3 hB0 m1 m2 l1 l3 hs0 hlen HM
    refine wpIn_region_any (by kernel_rfl) ?_
    refine via (fun G hG => ?_)
    have s422 : ∀ (w4 : World) (g cap : Nat) (X : Obj), w4.cell? ⟨w.heap.size + 1 + 1, 0, none⟩ = some (.pointer (some ⟨w.heap.size + 1, 0, none⟩)) → w4.cell? ⟨w.heap.size + 1, 0, none⟩ = some (.map (some w.heap.size)) → w4.cell? ⟨q, 0, none⟩ = some (.int .u64 xk) → w4.cell? ⟨q, 1, none⟩ = some (.int .i64 xp) → w4.cell? ⟨q, 2, none⟩ = some (.slice (some ⟨xg, 0, none⟩) 4096 xc) → (Instr.mapUpdate 65 (.map (some w.heap.size)) (.int .u64 xk) (.agg #[.int .u64 xk, .int .i64 xp, .slice (some ⟨g, 0, none⟩) 4096 cap])).run Try.prog w4 = .ok () (w4.putObj w.heap.size X) → Hid (Grw w W0 W b r ps k p Y pre x (w4.putObj w.heap.size X)) → G 1 #[true, true, true, true, true, true, true, true, false] { tmps := #[.pointer (some ⟨b, 0, none⟩), undef, .pointer none, .pointer (some ⟨w.heap.size + 1 + 1, 0, none⟩), .pointer (some ⟨q, 0, none⟩), .pointer (some ⟨w.heap.size + 1, 0, none⟩), .pointer (some ⟨b, 0, none⟩), .func (.func 50) #[] #[.pointer (some ⟨w.heap.size + 1 + 1 + 1, 0, none⟩)], .agg #[.int .u64 xk, .int .i64 xp, .slice (some ⟨xg, 0, none⟩) 4096 xc], .pointer (some ⟨w.heap.size + 1, 0, none⟩), .pointer (some ⟨w.heap.size + 1, 0, none⟩), .pointer (some ⟨w.heap.size + 1, 0, none⟩), .map (some w.heap.size), .pointer (some ⟨q, 0, none⟩), .int .u64 xk, .agg #[.int .u64 xk, .int .i64 xp, .slice (some ⟨xg, 0, none⟩) 4096 xc], .agg #[.int .u64 xk, .int .i64 xp, .slice (some ⟨g, 0, none⟩) 4096 cap], undef], defers := [] } w4 := by
      intro w4 g cap X y0 y1 y2 y3 y4 yu yh
      rw [hG]
      refine wpAnyIn_ready (rs := [8]) (by kernel_rfl) (by simp) (AllReadyIn.cons rfl (fun K hK => ?_) AllReadyIn.nil)
      · go_simp
        refine hK _ _ (wpAnyIn_done (by kernel_rfl) ?_ _)
        exact ⟨yh.out.keeps, yh.out.keep, ⟨yh.out.boxc, yh.out.boxm⟩, yh.out.cl, yh.out.size, yh.out.below⟩
    have s412 : ∀ (w4 : World) (g cap : Nat) (X : Obj), w4.cell? ⟨w.heap.size + 1 + 1, 0, none⟩ = some (.pointer (some ⟨w.heap.size + 1, 0, none⟩)) → w4.cell? ⟨w.heap.size + 1, 0, none⟩ = some (.map (some w.heap.size)) → w4.cell? ⟨q, 0, none⟩ = some (.int .u64 xk) → w4.cell? ⟨q, 1, none⟩ = some (.int .i64 xp) → w4.cell? ⟨q, 2, none⟩ = some (.slice (some ⟨xg, 0, none⟩) 4096 xc) → (Instr.mapUpdate 65 (.map (some w.heap.size)) (.int .u64 xk) (.agg #[.int .u64 xk, .int .i64 xp, .slice (some ⟨g, 0, none⟩) 4096 cap])).run Try.prog w4 = .ok () (w4.putObj w.heap.size X) → Hid (Grw w W0 W b r ps k p Y pre x (w4.putObj w.heap.size X)) → G 2 #[true, true, true, true, true, false, true, true, false] { tmps := #[.pointer (some ⟨b, 0, none⟩), undef, .pointer none, .pointer (some ⟨w.heap.size + 1 + 1, 0, none⟩), .pointer (some ⟨q, 0, none⟩), .pointer (some ⟨w.heap.size + 1, 0, none⟩), .pointer (some ⟨b, 0, none⟩), .func (.func 50) #[] #[.pointer (some ⟨w.heap.size + 1 + 1 + 1, 0, none⟩)], .agg #[.int .u64 xk, .int .i64 xp, .slice (some ⟨xg, 0, none⟩) 4096 xc], .pointer (some ⟨w.heap.size + 1, 0, none⟩), .pointer (some ⟨w.heap.size + 1, 0, none⟩), .pointer (some ⟨w.heap.size + 1, 0, none⟩), .map (some w.heap.size), .pointer (some ⟨q, 0, none⟩), undef, .agg #[.int .u64 xk, .int .i64 xp, .slice (some ⟨xg, 0, none⟩) 4096 xc], .agg #[.int .u64 xk, .int .i64 xp, .slice (some ⟨g, 0, none⟩) 4096 cap], undef], defers := [] } w4 := by
      intro w4 g cap X y0 y1 y2 y3 y4 yu yh
      rw [hG]
      refine wpAnyIn_ready (rs := [5]) (by kernel_rfl) (by simp) (AllReadyIn.cons rfl (fun K hK => ?_) AllReadyIn.nil)
      · go_simp
        exact hK _ _ (vb hG (s422 w4 g cap X y0 y1 y2 y3 y4 yu yh))
    have s402 : ∀ (w4 : World) (g cap : Nat) (X : Obj), w4.cell? ⟨w.heap.size + 1 + 1, 0, none⟩ = some (.pointer (some ⟨w.heap.size + 1, 0, none⟩)) → w4.cell? ⟨w.heap.size + 1, 0, none⟩ = some (.map (some w.heap.size)) → w4.cell? ⟨q, 0, none⟩ = some (.int .u64 xk) → w4.cell? ⟨q, 1, none⟩ = some (.int .i64 xp) → w4.cell? ⟨q, 2, none⟩ = some (.slice (some ⟨xg, 0, none⟩) 4096 xc) → (Instr.mapUpdate 65 (.map (some w.heap.size)) (.int .u64 xk) (.agg #[.int .u64 xk, .int .i64 xp, .slice (some ⟨g, 0, none⟩) 4096 cap])).run Try.prog w4 = .ok () (w4.putObj w.heap.size X) → Hid (Grw w W0 W b r ps k p Y pre x (w4.putObj w.heap.size X)) → G 3 #[true, true, true, true, false, false, true, true, false] { tmps := #[.pointer (some ⟨b, 0, none⟩), undef, .pointer none, .pointer (some ⟨w.heap.size + 1 + 1, 0, none⟩), .pointer (some ⟨q, 0, none⟩), .pointer (some ⟨w.heap.size + 1, 0, none⟩), .pointer (some ⟨b, 0, none⟩), .func (.func 50) #[] #[.pointer (some ⟨w.heap.size + 1 + 1 + 1, 0, none⟩)], .agg #[.int .u64 xk, .int .i64 xp, .slice (some ⟨xg, 0, none⟩) 4096 xc], .pointer (some ⟨w.heap.size + 1, 0, none⟩), .pointer (some ⟨w.heap.size + 1, 0, none⟩), .pointer (some ⟨w.heap.size + 1, 0, none⟩), .map (some w.heap.size), undef, undef, .agg #[.int .u64 xk, .int .i64 xp, .slice (some ⟨xg, 0, none⟩) 4096 xc], .agg #[.int .u64 xk, .int .i64 xp, .slice (some ⟨g, 0, none⟩) 4096 cap], undef], defers := [] } w4 := by
      intro w4 g cap X y0 y1 y2 y3 y4 yu yh
      rw [hG]
      refine wpAnyIn_ready (rs := [4]) (by kernel_rfl) (by simp) (AllReadyIn.cons rfl (fun K hK => ?_) AllReadyIn.nil)
      · go_simp
        exact hK _ _ (vb hG (s412 w4 g cap X y0 y1 y2 y3 y4 yu yh))
    have s322 : ∀ (w4 : World) (g cap : Nat) (X : Obj), w4.cell? ⟨w.heap.size + 1 + 1, 0, none⟩ = some (.pointer (some ⟨w.heap.size + 1, 0, none⟩)) → w4.cell? ⟨w.heap.size + 1, 0, none⟩ = some (.map (some w.heap.size)) → w4.cell? ⟨q, 0, none⟩ = some (.int .u64 xk) → w4.cell? ⟨q, 1, none⟩ = some (.int .i64 xp) → w4.cell? ⟨q, 2, none⟩ = some (.slice (some ⟨xg, 0, none⟩) 4096 xc) → (Instr.mapUpdate 65 (.map (some w.heap.size)) (.int .u64 xk) (.agg #[.int .u64 xk, .int .i64 xp, .slice (some ⟨g, 0, none⟩) 4096 cap])).run Try.prog w4 = .ok () (w4.putObj w.heap.size X) → Hid (Grw w W0 W b r ps k p Y pre x (w4.putObj w.heap.size X)) → G 2 #[true, true, true, false, true, true, true, true, false] { tmps := #[.pointer (some ⟨b, 0, none⟩), undef, .pointer none, .pointer (some ⟨w.heap.size + 1 + 1, 0, none⟩), .pointer (some ⟨q, 0, none⟩), .pointer (some ⟨w.heap.size + 1, 0, none⟩), .pointer (some ⟨b, 0, none⟩), .func (.func 50) #[] #[.pointer (some ⟨w.heap.size + 1 + 1 + 1, 0, none⟩)], .agg #[.int .u64 xk, .int .i64 xp, .slice (some ⟨xg, 0, none⟩) 4096 xc], .pointer (some ⟨w.heap.size + 1, 0, none⟩), .pointer (some ⟨w.heap.size + 1, 0, none⟩), .pointer (some ⟨w.heap.size + 1, 0, none⟩), undef, .pointer (some ⟨q, 0, none⟩), .int .u64 xk, .agg #[.int .u64 xk, .int .i64 xp, .slice (some ⟨xg, 0, none⟩) 4096 xc], .agg #[.int .u64 xk, .int .i64 xp, .slice (some ⟨g, 0, none⟩) 4096 cap], undef], defers := [] } w4 := by
      intro w4 g cap X y0 y1 y2 y3 y4 yu yh
      rw [hG]
      refine wpAnyIn_ready (rs := [3]) (by kernel_rfl) (by simp) (AllReadyIn.cons rfl (fun K hK => ?_) AllReadyIn.nil)
      · go_simp
        exact hK _ _ (vb hG (s422 w4 g cap X y0 y1 y2 y3 y4 yu yh))
    have s312 : ∀ (w4 : World) (g cap : Nat) (X : Obj), w4.cell? ⟨w.heap.size + 1 + 1, 0, none⟩ = some (.pointer (some ⟨w.heap.size + 1, 0, none⟩)) → w4.cell? ⟨w.heap.size + 1, 0, none⟩ = some (.map (some w.heap.size)) → w4.cell? ⟨q, 0, none⟩ = some (.int .u64 xk) → w4.cell? ⟨q, 1, none⟩ = some (.int .i64 xp) → w4.cell? ⟨q, 2, none⟩ = some (.slice (some ⟨xg, 0, none⟩) 4096 xc) → (Instr.mapUpdate 65 (.map (some w.heap.size)) (.int .u64 xk) (.agg #[.int .u64 xk, .int .i64 xp, .slice (some ⟨g, 0, none⟩) 4096 cap])).run Try.prog w4 = .ok () (w4.putObj w.heap.size X) → Hid (Grw w W0 W b r ps k p Y pre x (w4.putObj w.heap.size X)) → G 3 #[true, true, true, false, true, false, true, true, false] { tmps := #[.pointer (some ⟨b, 0, none⟩), undef, .pointer none, .pointer (some ⟨w.heap.size + 1 + 1, 0, none⟩), .pointer (some ⟨q, 0, none⟩), .pointer (some ⟨w.heap.size + 1, 0, none⟩), .pointer (some ⟨b, 0, none⟩), .func (.func 50) #[] #[.pointer (some ⟨w.heap.size + 1 + 1 + 1, 0, none⟩)], .agg #[.int .u64 xk, .int .i64 xp, .slice (some ⟨xg, 0, none⟩) 4096 xc], .pointer (some ⟨w.heap.size + 1, 0, none⟩), .pointer (some ⟨w.heap.size + 1, 0, none⟩), .pointer (some ⟨w.heap.size + 1, 0, none⟩), undef, .pointer (some ⟨q, 0, none⟩), undef, .agg #[.int .u64 xk, .int .i64 xp, .slice (some ⟨xg, 0, none⟩) 4096 xc], .agg #[.int .u64 xk, .int .i64 xp, .slice (some ⟨g, 0, none⟩) 4096 cap], undef], defers := [] } w4 := by
      intro w4 g cap X y0 y1 y2 y3 y4 yu yh
      rw [hG]
      refine wpAnyIn_ready (rs := [3, 5]) (by kernel_rfl) (by simp) (AllReadyIn.cons rfl (fun K hK => ?_) (AllReadyIn.cons rfl (fun K hK => ?_) AllReadyIn.nil))
      · go_simp
        exact hK _ _ (vb hG (s412 w4 g cap X y0 y1 y2 y3 y4 yu yh))
      · go_simp
        exact hK _ _ (vb hG (s322 w4 g cap X y0 y1 y2 y3 y4 yu yh))
    have s302 : ∀ (w4 : World) (g cap : Nat) (X : Obj), w4.cell? ⟨w.heap.size + 1 + 1, 0, none⟩ = some (.pointer (some ⟨w.heap.size + 1, 0, none⟩)) → w4.cell? ⟨w.heap.size + 1, 0, none⟩ = some (.map (some w.heap.size)) → w4.cell? ⟨q, 0, none⟩ = some (.int .u64 xk) → w4.cell? ⟨q, 1, none⟩ = some (.int .i64 xp) → w4.cell? ⟨q, 2, none⟩ = some (.slice (some ⟨xg, 0, none⟩) 4096 xc) → (Instr.mapUpdate 65 (.map (some w.heap.size)) (.int .u64 xk) (.agg #[.int .u64 xk, .int .i64 xp, .slice (some ⟨g, 0, none⟩) 4096 cap])).run Try.prog w4 = .ok () (w4.putObj w.heap.size X) → Hid (Grw w W0 W b r ps k p Y pre x (w4.putObj w.heap.size X)) → G 4 #[true, true, true, false, false, false, true, true, false] { tmps := #[.pointer (some ⟨b, 0, none⟩), undef, .pointer none, .pointer (some ⟨w.heap.size + 1 + 1, 0, none⟩), .pointer (some ⟨q, 0, none⟩), .pointer (some ⟨w.heap.size + 1, 0, none⟩), .pointer (some ⟨b, 0, none⟩), .func (.func 50) #[] #[.pointer (some ⟨w.heap.size + 1 + 1 + 1, 0, none⟩)], .agg #[.int .u64 xk, .int .i64 xp, .slice (some ⟨xg, 0, none⟩) 4096 xc], .pointer (some ⟨w.heap.size + 1, 0, none⟩), .pointer (some ⟨w.heap.size + 1, 0, none⟩), .pointer (some ⟨w.heap.size + 1, 0, none⟩), undef, undef, undef, .agg #[.int .u64 xk, .int .i64 xp, .slice (some ⟨xg, 0, none⟩) 4096 xc], .agg #[.int .u64 xk, .int .i64 xp, .slice (some ⟨g, 0, none⟩) 4096 cap], undef], defers := [] } w4 := by
      intro w4 g cap X y0 y1 y2 y3 y4 yu yh
      rw [hG]
      refine wpAnyIn_ready (rs := [3, 4]) (by kernel_rfl) (by simp) (AllReadyIn.cons rfl (fun K hK => ?_) (AllReadyIn.cons rfl (fun K hK => ?_) AllReadyIn.nil))
      · go_simp
        exact hK _ _ (vb hG (s402 w4 g cap X y0 y1 y2 y3 y4 yu yh))
      · go_simp
        exact hK _ _ (vb hG (s312 w4 g cap X y0 y1 y2 y3 y4 yu yh))
    have s222 : ∀ (w4 : World) (g cap : Nat) (X : Obj), w4.cell? ⟨w.heap.size + 1 + 1, 0, none⟩ = some (.pointer (some ⟨w.heap.size + 1, 0, none⟩)) → w4.cell? ⟨w.heap.size + 1, 0, none⟩ = some (.map (some w.heap.size)) → w4.cell? ⟨q, 0, none⟩ = some (.int .u64 xk) → w4.cell? ⟨q, 1, none⟩ = some (.int .i64 xp) → w4.cell? ⟨q, 2, none⟩ = some (.slice (some ⟨xg, 0, none⟩) 4096 xc) → (Instr.mapUpdate 65 (.map (some w.heap.size)) (.int .u64 xk) (.agg #[.int .u64 xk, .int .i64 xp, .slice (some ⟨g, 0, none⟩) 4096 cap])).run Try.prog w4 = .ok () (w4.putObj w.heap.size X) → Hid (Grw w W0 W b r ps k p Y pre x (w4.putObj w.heap.size X)) → G 3 #[true, true, false, false, true, true, true, true, false] { tmps := #[.pointer (some ⟨b, 0, none⟩), undef, .pointer none, .pointer (some ⟨w.heap.size + 1 + 1, 0, none⟩), .pointer (some ⟨q, 0, none⟩), .pointer (some ⟨w.heap.size + 1, 0, none⟩), .pointer (some ⟨b, 0, none⟩), .func (.func 50) #[] #[.pointer (some ⟨w.heap.size + 1 + 1 + 1, 0, none⟩)], .agg #[.int .u64 xk, .int .i64 xp, .slice (some ⟨xg, 0, none⟩) 4096 xc], .pointer (some ⟨w.heap.size + 1, 0, none⟩), .pointer (some ⟨w.heap.size + 1, 0, none⟩), undef, undef, .pointer (some ⟨q, 0, none⟩), .int .u64 xk, .agg #[.int .u64 xk, .int .i64 xp, .slice (some ⟨xg, 0, none⟩) 4096 xc], .agg #[.int .u64 xk, .int .i64 xp, .slice (some ⟨g, 0, none⟩) 4096 cap], undef], defers := [] } w4 := by
      intro w4 g cap X y0 y1 y2 y3 y4 yu yh
      rw [hG]
      refine wpAnyIn_ready (rs := [2]) (by kernel_rfl) (by simp) (AllReadyIn.cons rfl (fun K hK => ?_) AllReadyIn.nil)
      · go_simp
        exact hK _ _ (vb hG (s322 w4 g cap X y0 y1 y2 y3 y4 yu yh))
    have s212 : ∀ (w4 : World) (g cap : Nat) (X : Obj), w4.cell? ⟨w.heap.size + 1 + 1, 0, none⟩ = some (.pointer (some ⟨w.heap.size + 1, 0, none⟩)) → w4.cell? ⟨w.heap.size + 1, 0, none⟩ = some (.map (some w.heap.size)) → w4.cell? ⟨q, 0, none⟩ = some (.int .u64 xk) → w4.cell? ⟨q, 1, none⟩ = some (.int .i64 xp) → w4.cell? ⟨q, 2, none⟩ = some (.slice (some ⟨xg, 0, none⟩) 4096 xc) → (Instr.mapUpdate 65 (.map (some w.heap.size)) (.int .u64 xk) (.agg #[.int .u64 xk, .int .i64 xp, .slice (some ⟨g, 0, none⟩) 4096 cap])).run Try.prog w4 = .ok () (w4.putObj w.heap.size X) → Hid (Grw w W0 W b r ps k p Y pre x (w4.putObj w.heap.size X)) → G 4 #[true, true, false, false, true, false, true, true, false] { tmps := #[.pointer (some ⟨b, 0, none⟩), undef, .pointer none, .pointer (some ⟨w.heap.size + 1 + 1, 0, none⟩), .pointer (some ⟨q, 0, none⟩), .pointer (some ⟨w.heap.size + 1, 0, none⟩), .pointer (some ⟨b, 0, none⟩), .func (.func 50) #[] #[.pointer (some ⟨w.heap.size + 1 + 1 + 1, 0, none⟩)], .agg #[.int .u64 xk, .int .i64 xp, .slice (some ⟨xg, 0, none⟩) 4096 xc], .pointer (some ⟨w.heap.size + 1, 0, none⟩), .pointer (some ⟨w.heap.size + 1, 0, none⟩), undef, undef, .pointer (some ⟨q, 0, none⟩), undef, .agg #[.int .u64 xk, .int .i64 xp, .slice (some ⟨xg, 0, none⟩) 4096 xc], .agg #[.int .u64 xk, .int .i64 xp, .slice (some ⟨g, 0, none⟩) 4096 cap], undef], defers := [] } w4 := by
      intro w4 g cap X y0 y1 y2 y3 y4 yu yh
      rw [hG]
      refine wpAnyIn_ready (rs := [2, 5]) (by kernel_rfl) (by simp) (AllReadyIn.cons rfl (fun K hK => ?_) (AllReadyIn.cons rfl (fun K hK => ?_) AllReadyIn.nil))
      · go_simp
        exact hK _ _ (vb hG (s312 w4 g cap X y0 y1 y2 y3 y4 yu yh))
      · go_simp
        exact hK _ _ (vb hG (s222 w4 g cap X y0 y1 y2 y3 y4 yu yh))
    have s202 : ∀ (w4 : World) (g cap : Nat) (X : Obj), w4.cell? ⟨w.heap.size + 1 + 1, 0, none⟩ = some (.pointer (some ⟨w.heap.size + 1, 0, none⟩)) → w4.cell? ⟨w.heap.size + 1, 0, none⟩ = some (.map (some w.heap.size)) → w4.cell? ⟨q, 0, none⟩ = some (.int .u64 xk) → w4.cell? ⟨q, 1, none⟩ = some (.int .i64 xp) → w4.cell? ⟨q, 2, none⟩ = some (.slice (some ⟨xg, 0, none⟩) 4096 xc) → (Instr.mapUpdate 65 (.map (some w.heap.size)) (.int .u64 xk) (.agg #[.int .u64 xk, .int .i64 xp, .slice (some ⟨g, 0, none⟩) 4096 cap])).run Try.prog w4 = .ok () (w4.putObj w.heap.size X) → Hid (Grw w W0 W b r ps k p Y pre x (w4.putObj w.heap.size X)) → G 5 #[true, true, false, false, false, false, true, true, false] { tmps := #[.pointer (some ⟨b, 0, none⟩), undef, .pointer none, .pointer (some ⟨w.heap.size + 1 + 1, 0, none⟩), .pointer (some ⟨q, 0, none⟩), .pointer (some ⟨w.heap.size + 1, 0, none⟩), .pointer (some ⟨b, 0, none⟩), .func (.func 50) #[] #[.pointer (some ⟨w.heap.size + 1 + 1 + 1, 0, none⟩)], .agg #[.int .u64 xk, .int .i64 xp, .slice (some ⟨xg, 0, none⟩) 4096 xc], .pointer (some ⟨w.heap.size + 1, 0, none⟩), .pointer (some ⟨w.heap.size + 1, 0, none⟩), undef, undef, undef, undef, .agg #[.int .u64 xk, .int .i64 xp, .slice (some ⟨xg, 0, none⟩) 4096 xc], .agg #[.int .u64 xk, .int .i64 xp, .slice (some ⟨g, 0, none⟩) 4096 cap], undef], defers := [] } w4 := by
      intro w4 g cap X y0 y1 y2 y3 y4 yu yh
      rw [hG]
      refine wpAnyIn_ready (rs := [2, 4]) (by kernel_rfl) (by simp) (AllReadyIn.cons rfl (fun K hK => ?_) (AllReadyIn.cons rfl (fun K hK => ?_) AllReadyIn.nil))
      · go_simp
        exact hK _ _ (vb hG (s302 w4 g cap X y0 y1 y2 y3 y4 yu yh))
      · go_simp
        exact hK _ _ (vb hG (s212 w4 g cap X y0 y1 y2 y3 y4 yu yh))
    have s122 : ∀ (w4 : World) (g cap : Nat) (X : Obj), w4.cell? ⟨w.heap.size + 1 + 1, 0, none⟩ = some (.pointer (some ⟨w.heap.size + 1, 0, none⟩)) → w4.cell? ⟨w.heap.size + 1, 0, none⟩ = some (.map (some w.heap.size)) → w4.cell? ⟨q, 0, none⟩ = some (.int .u64 xk) → w4.cell? ⟨q, 1, none⟩ = some (.int .i64 xp) → w4.cell? ⟨q, 2, none⟩ = some (.slice (some ⟨xg, 0, none⟩) 4096 xc) → (Instr.mapUpdate 65 (.map (some w.heap.size)) (.int .u64 xk) (.agg #[.int .u64 xk, .int .i64 xp, .slice (some ⟨g, 0, none⟩) 4096 cap])).run Try.prog w4 = .ok () (w4.putObj w.heap.size X) → Hid (Grw w W0 W b r ps k p Y pre x (w4.putObj w.heap.size X)) → G 4 #[true, false, false, false, true, true, true, true, false] { tmps := #[.pointer (some ⟨b, 0, none⟩), undef, .pointer none, .pointer (some ⟨w.heap.size + 1 + 1, 0, none⟩), .pointer (some ⟨q, 0, none⟩), .pointer (some ⟨w.heap.size + 1, 0, none⟩), .pointer (some ⟨b, 0, none⟩), .func (.func 50) #[] #[.pointer (some ⟨w.heap.size + 1 + 1 + 1, 0, none⟩)], .agg #[.int .u64 xk, .int .i64 xp, .slice (some ⟨xg, 0, none⟩) 4096 xc], .pointer (some ⟨w.heap.size + 1, 0, none⟩), undef, undef, undef, .pointer (some ⟨q, 0, none⟩), .int .u64 xk, .agg #[.int .u64 xk, .int .i64 xp, .slice (some ⟨xg, 0, none⟩) 4096 xc], .agg #[.int .u64 xk, .int .i64 xp, .slice (some ⟨g, 0, none⟩) 4096 cap], undef], defers := [] } w4 := by
      intro w4 g cap X y0 y1 y2 y3 y4 yu yh
      rw [hG]
      refine wpAnyIn_ready (rs := [1]) (by kernel_rfl) (by simp) (AllReadyIn.cons rfl (fun K hK => ?_) AllReadyIn.nil)
      · go_simp
        exact hK _ _ (vb hG (s222 w4 g cap X y0 y1 y2 y3 y4 yu yh))
    have s112 : ∀ (w4 : World) (g cap : Nat) (X : Obj), w4.cell? ⟨w.heap.size + 1 + 1, 0, none⟩ = some (.pointer (some ⟨w.heap.size + 1, 0, none⟩)) → w4.cell? ⟨w.heap.size + 1, 0, none⟩ = some (.map (some w.heap.size)) → w4.cell? ⟨q, 0, none⟩ = some (.int .u64 xk) → w4.cell? ⟨q, 1, none⟩ = some (.int .i64 xp) → w4.cell? ⟨q, 2, none⟩ = some (.slice (some ⟨xg, 0, none⟩) 4096 xc) → (Instr.mapUpdate 65 (.map (some w.heap.size)) (.int .u64 xk) (.agg #[.int .u64 xk, .int .i64 xp, .slice (some ⟨g, 0, none⟩) 4096 cap])).run Try.prog w4 = .ok () (w4.putObj w.heap.size X) → Hid (Grw w W0 W b r ps k p Y pre x (w4.putObj w.heap.size X)) → G 5 #[true, false, false, false, true, false, true, true, false] { tmps := #[.pointer (some ⟨b, 0, none⟩), undef, .pointer none, .pointer (some ⟨w.heap.size + 1 + 1, 0, none⟩), .pointer (some ⟨q, 0, none⟩), .pointer (some ⟨w.heap.size + 1, 0, none⟩), .pointer (some ⟨b, 0, none⟩), .func (.func 50) #[] #[.pointer (some ⟨w.heap.size + 1 + 1 + 1, 0, none⟩)], .agg #[.int .u64 xk, .int .i64 xp, .slice (some ⟨xg, 0, none⟩) 4096 xc], .pointer (some ⟨w.heap.size + 1, 0, none⟩), undef, undef, undef, .pointer (some ⟨q, 0, none⟩), undef, .agg #[.int .u64 xk, .int .i64 xp, .slice (some ⟨xg, 0, none⟩) 4096 xc], .agg #[.int .u64 xk, .int .i64 xp, .slice (some ⟨g, 0, none⟩) 4096 cap], undef], defers := [] } w4 := by
      intro w4 g cap X y0 y1 y2 y3 y4 yu yh
      rw [hG]
      refine wpAnyIn_ready (rs := [1, 5]) (by kernel_rfl) (by simp) (AllReadyIn.cons rfl (fun K hK => ?_) (AllReadyIn.cons rfl (fun K hK => ?_) AllReadyIn.nil))
      · go_simp
        exact hK _ _ (vb hG (s212 w4 g cap X y0 y1 y2 y3 y4 yu yh))
      · go_simp
        exact hK _ _ (vb hG (s122 w4 g cap X y0 y1 y2 y3 y4 yu yh))
    have s102 : ∀ (w4 : World) (g cap : Nat) (X : Obj), w4.cell? ⟨w.heap.size + 1 + 1, 0, none⟩ = some (.pointer (some ⟨w.heap.size + 1, 0, none⟩)) → w4.cell? ⟨w.heap.size + 1, 0, none⟩ = some (.map (some w.heap.size)) → w4.cell? ⟨q, 0, none⟩ = some (.int .u64 xk) → w4.cell? ⟨q, 1, none⟩ = some (.int .i64 xp) → w4.cell? ⟨q, 2, none⟩ = some (.slice (some ⟨xg, 0, none⟩) 4096 xc) → (Instr.mapUpdate 65 (.map (some w.heap.size)) (.int .u64 xk) (.agg #[.int .u64 xk, .int .i64 xp, .slice (some ⟨g, 0, none⟩) 4096 cap])).run Try.prog w4 = .ok () (w4.putObj w.heap.size X) → Hid (Grw w W0 W b r ps k p Y pre x (w4.putObj w.heap.size X)) → G 6 #[true, false, false, false, false, false, true, true, false] { tmps := #[.pointer (some ⟨b, 0, none⟩), undef, .pointer none, .pointer (some ⟨w.heap.size + 1 + 1, 0, none⟩), .pointer (some ⟨q, 0, none⟩), .pointer (some ⟨w.heap.size + 1, 0, none⟩), .pointer (some ⟨b, 0, none⟩), .func (.func 50) #[] #[.pointer (some ⟨w.heap.size + 1 + 1 + 1, 0, none⟩)], .agg #[.int .u64 xk, .int .i64 xp, .slice (some ⟨xg, 0, none⟩) 4096 xc], .pointer (some ⟨w.heap.size + 1, 0, none⟩), undef, undef, undef, undef, undef, .agg #[.int .u64 xk, .int .i64 xp, .slice (some ⟨xg, 0, none⟩) 4096 xc], .agg #[.int .u64 xk, .int .i64 xp, .slice (some ⟨g, 0, none⟩) 4096 cap], undef], defers := [] } w4 := by
      intro w4 g cap X y0 y1 y2 y3 y4 yu yh
      rw [hG]
      refine wpAnyIn_ready (rs := [1, 4]) (by kernel_rfl) (by simp) (AllReadyIn.cons rfl (fun K hK => ?_) (AllReadyIn.cons rfl (fun K hK => ?_) AllReadyIn.nil))
      · go_simp
        exact hK _ _ (vb hG (s202 w4 g cap X y0 y1 y2 y3 y4 yu yh))
      · go_simp
        exact hK _ _ (vb hG (s112 w4 g cap X y0 y1 y2 y3 y4 yu yh))
    have s022 : ∀ (w4 : World) (g cap : Nat) (X : Obj), w4.cell? ⟨w.heap.size + 1 + 1, 0, none⟩ = some (.pointer (some ⟨w.heap.size + 1, 0, none⟩)) → w4.cell? ⟨w.heap.size + 1, 0, none⟩ = some (.map (some w.heap.size)) → w4.cell? ⟨q, 0, none⟩ = some (.int .u64 xk) → w4.cell? ⟨q, 1, none⟩ = some (.int .i64 xp) → w4.cell? ⟨q, 2, none⟩ = some (.slice (some ⟨xg, 0, none⟩) 4096 xc) → (Instr.mapUpdate 65 (.map (some w.heap.size)) (.int .u64 xk) (.agg #[.int .u64 xk, .int .i64 xp, .slice (some ⟨g, 0, none⟩) 4096 cap])).run Try.prog w4 = .ok () (w4.putObj w.heap.size X) → Hid (Grw w W0 W b r ps k p Y pre x (w4.putObj w.heap.size X)) → G 5 #[false, false, false, false, true, true, true, true, false] { tmps := #[.pointer (some ⟨b, 0, none⟩), undef, .pointer none, .pointer (some ⟨w.heap.size + 1 + 1, 0, none⟩), .pointer (some ⟨q, 0, none⟩), .pointer (some ⟨w.heap.size + 1, 0, none⟩), .pointer (some ⟨b, 0, none⟩), .func (.func 50) #[] #[.pointer (some ⟨w.heap.size + 1 + 1 + 1, 0, none⟩)], .agg #[.int .u64 xk, .int .i64 xp, .slice (some ⟨xg, 0, none⟩) 4096 xc], undef, undef, undef, undef, .pointer (some ⟨q, 0, none⟩), .int .u64 xk, .agg #[.int .u64 xk, .int .i64 xp, .slice (some ⟨xg, 0, none⟩) 4096 xc], .agg #[.int .u64 xk, .int .i64 xp, .slice (some ⟨g, 0, none⟩) 4096 cap], undef], defers := [] } w4 := by
      intro w4 g cap X y0 y1 y2 y3 y4 yu yh
      rw [hG]
      refine wpAnyIn_ready (rs := [0]) (by kernel_rfl) (by simp) (AllReadyIn.cons rfl (fun K hK => ?_) AllReadyIn.nil)
      · go_simp
        exact hK _ _ (vb hG (s122 w4 g cap X y0 y1 y2 y3 y4 yu yh))
    have s012 : ∀ (w4 : World) (g cap : Nat) (X : Obj), w4.cell? ⟨w.heap.size + 1 + 1, 0, none⟩ = some (.pointer (some ⟨w.heap.size + 1, 0, none⟩)) → w4.cell? ⟨w.heap.size + 1, 0, none⟩ = some (.map (some w.heap.size)) → w4.cell? ⟨q, 0, none⟩ = some (.int .u64 xk) → w4.cell? ⟨q, 1, none⟩ = some (.int .i64 xp) → w4.cell? ⟨q, 2, none⟩ = some (.slice (some ⟨xg, 0, none⟩) 4096 xc) → (Instr.mapUpdate 65 (.map (some w.heap.size)) (.int .u64 xk) (.agg #[.int .u64 xk, .int .i64 xp, .slice (some ⟨g, 0, none⟩) 4096 cap])).run Try.prog w4 = .ok () (w4.putObj w.heap.size X) → Hid (Grw w W0 W b r ps k p Y pre x (w4.putObj w.heap.size X)) → G 6 #[false, false, false, false, true, false, true, true, false] { tmps := #[.pointer (some ⟨b, 0, none⟩), undef, .pointer none, .pointer (some ⟨w.heap.size + 1 + 1, 0, none⟩), .pointer (some ⟨q, 0, none⟩), .pointer (some ⟨w.heap.size + 1, 0, none⟩), .pointer (some ⟨b, 0, none⟩), .func (.func 50) #[] #[.pointer (some ⟨w.heap.size + 1 + 1 + 1, 0, none⟩)], .agg #[.int .u64 xk, .int .i64 xp, .slice (some ⟨xg, 0, none⟩) 4096 xc], undef, undef, undef, undef, .pointer (some ⟨q, 0, none⟩), undef, .agg #[.int .u64 xk, .int .i64 xp, .slice (some ⟨xg, 0, none⟩) 4096 xc], .agg #[.int .u64 xk, .int .i64 xp, .slice (some ⟨g, 0, none⟩) 4096 cap], undef], defers := [] } w4 := by
      intro w4 g cap X y0 y1 y2 y3 y4 yu yh
      rw [hG]
      refine wpAnyIn_ready (rs := [0, 5]) (by kernel_rfl) (by simp) (AllReadyIn.cons rfl (fun K hK => ?_) (AllReadyIn.cons rfl (fun K hK => ?_) AllReadyIn.nil))
      · go_simp
        exact hK _ _ (vb hG (s112 w4 g cap X y0 y1 y2 y3 y4 yu yh))
      · go_simp
        exact hK _ _ (vb hG (s022 w4 g cap X y0 y1 y2 y3 y4 yu yh))
    have s002 : ∀ (w4 : World) (g cap : Nat) (X : Obj), w4.cell? ⟨w.heap.size + 1 + 1, 0, none⟩ = some (.pointer (some ⟨w.heap.size + 1, 0, none⟩)) → w4.cell? ⟨w.heap.size + 1, 0, none⟩ = some (.map (some w.heap.size)) → w4.cell? ⟨q, 0, none⟩ = some (.int .u64 xk) → w4.cell? ⟨q, 1, none⟩ = some (.int .i64 xp) → w4.cell? ⟨q, 2, none⟩ = some (.slice (some ⟨xg, 0, none⟩) 4096 xc) → (Instr.mapUpdate 65 (.map (some w.heap.size)) (.int .u64 xk) (.agg #[.int .u64 xk, .int .i64 xp, .slice (some ⟨g, 0, none⟩) 4096 cap])).run Try.prog w4 = .ok () (w4.putObj w.heap.size X) → Hid (Grw w W0 W b r ps k p Y pre x (w4.putObj w.heap.size X)) → G 7 #[false, false, false, false, false, false, true, true, false] { tmps := #[.pointer (some ⟨b, 0, none⟩), undef, .pointer none, .pointer (some ⟨w.heap.size + 1 + 1, 0, none⟩), .pointer (some ⟨q, 0, none⟩), .pointer (some ⟨w.heap.size + 1, 0, none⟩), .pointer (some ⟨b, 0, none⟩), .func (.func 50) #[] #[.pointer (some ⟨w.heap.size + 1 + 1 + 1, 0, none⟩)], .agg #[.int .u64 xk, .int .i64 xp, .slice (some ⟨xg, 0, none⟩) 4096 xc], undef, undef, undef, undef, undef, undef, .agg #[.int .u64 xk, .int .i64 xp, .slice (some ⟨xg, 0, none⟩) 4096 xc], .agg #[.int .u64 xk, .int .i64 xp, .slice (some ⟨g, 0, none⟩) 4096 cap], undef], defers := [] } w4 := by
      intro w4 g cap X y0 y1 y2 y3 y4 yu yh
      rw [hG]
      refine wpAnyIn_ready (rs := [0, 4]) (by kernel_rfl) (by simp) (AllReadyIn.cons rfl (fun K hK => ?_) (AllReadyIn.cons rfl (fun K hK => ?_) AllReadyIn.nil))
      · go_simp
        exact hK _ _ (vb hG (s102 w4 g cap X y0 y1 y2 y3 y4 yu yh))
      · go_simp
        exact hK _ _ (vb hG (s012 w4 g cap X y0 y1 y2 y3 y4 yu yh))
    have s421 : G 2 #[true, true, true, true, true, true, true, false, false] { tmps := #[.pointer (some ⟨b, 0, none⟩), undef, .pointer none, .pointer (some ⟨w.heap.size + 1 + 1, 0, none⟩), .pointer (some ⟨q, 0, none⟩), .pointer (some ⟨w.heap.size + 1, 0, none⟩), .pointer (some ⟨b, 0, none⟩), .func (.func 50) #[] #[.pointer (some ⟨w.heap.size + 1 + 1 + 1, 0, none⟩)], .agg #[.int .u64 xk, .int .i64 xp, .slice (some ⟨xg, 0, none⟩) 4096 xc], .pointer (some ⟨w.heap.size + 1, 0, none⟩), .pointer (some ⟨w.heap.size + 1, 0, none⟩), .pointer (some ⟨w.heap.size + 1, 0, none⟩), .map (some w.heap.size), .pointer (some ⟨q, 0, none⟩), .int .u64 xk, .agg #[.int .u64 xk, .int .i64 xp, .slice (some ⟨xg, 0, none⟩) 4096 xc], undef, undef], defers := [] } W.drew := by
      rw [hG]
      refine wpAnyIn_ready (rs := [7]) (by kernel_rfl) (by simp) (AllReadyIn.cons rfl (fun K hK => ?_) AllReadyIn.nil)
      · go_simp
        refine ⟨trivial, ?_⟩
        refine (callsIn_wide.2 (HCo.out _ (.inr rfl))).mono ?_
        rintro e w4 ⟨g, cap, X, rfl, y0, y1, y2, y3, y4, yu, yh⟩
        exact hK _ _ (vb hG (s422 w4 g cap X y0 y1 y2 y3 y4 yu yh))
    have s411 : G 3 #[true, true, true, true, true, false, true, false, false] { tmps := #[.pointer (some ⟨b, 0, none⟩), undef, .pointer none, .pointer (some ⟨w.heap.size + 1 + 1, 0, none⟩), .pointer (some ⟨q, 0, none⟩), .pointer (some ⟨w.heap.size + 1, 0, none⟩), .pointer (some ⟨b, 0, none⟩), .func (.func 50) #[] #[.pointer (some ⟨w.heap.size + 1 + 1 + 1, 0, none⟩)], .agg #[.int .u64 xk, .int .i64 xp, .slice (some ⟨xg, 0, none⟩) 4096 xc], .pointer (some ⟨w.heap.size + 1, 0, none⟩), .pointer (some ⟨w.heap.size + 1, 0, none⟩), .pointer (some ⟨w.heap.size + 1, 0, none⟩), .map (some w.heap.size), .pointer (some ⟨q, 0, none⟩), undef, .agg #[.int .u64 xk, .int .i64 xp, .slice (some ⟨xg, 0, none⟩) 4096 xc], undef, undef], defers := [] } W.drew := by
      rw [hG]
      refine wpAnyIn_ready (rs := [5, 7]) (by kernel_rfl) (by simp) (AllReadyIn.cons rfl (fun K hK => ?_) (AllReadyIn.cons rfl (fun K hK => ?_) AllReadyIn.nil))
      · go_simp
        exact hK _ _ (vb hG s421)
      · go_simp
        refine ⟨trivial, ?_⟩
        refine (callsIn_wide.2 (HCo.out _ (.inr rfl))).mono ?_
        rintro e w4 ⟨g, cap, X, rfl, y0, y1, y2, y3, y4, yu, yh⟩
        exact hK _ _ (vb hG (s412 w4 g cap X y0 y1 y2 y3 y4 yu yh))
    have s401 : G 4 #[true, true, true, true, false, false, true, false, false] { tmps := #[.pointer (some ⟨b, 0, none⟩), undef, .pointer none, .pointer (some ⟨w.heap.size + 1 + 1, 0, none⟩), .pointer (some ⟨q, 0, none⟩), .pointer (some ⟨w.heap.size + 1, 0, none⟩), .pointer (some ⟨b, 0, none⟩), .func (.func 50) #[] #[.pointer (some ⟨w.heap.size + 1 + 1 + 1, 0, none⟩)], .agg #[.int .u64 xk, .int .i64 xp, .slice (some ⟨xg, 0, none⟩) 4096 xc], .pointer (some ⟨w.heap.size + 1, 0, none⟩), .pointer (some ⟨w.heap.size + 1, 0, none⟩), .pointer (some ⟨w.heap.size + 1, 0, none⟩), .map (some w.heap.size), undef, undef, .agg #[.int .u64 xk, .int .i64 xp, .slice (some ⟨xg, 0, none⟩) 4096 xc], undef, undef], defers := [] } W.drew := by
      rw [hG]
      refine wpAnyIn_ready (rs := [4, 7]) (by kernel_rfl) (by simp) (AllReadyIn.cons rfl (fun K hK => ?_) (AllReadyIn.cons rfl (fun K hK => ?_) AllReadyIn.nil))
      · go_simp
        exact hK _ _ (vb hG s411)
      · go_simp
        refine ⟨trivial, ?_⟩
        refine (callsIn_wide.2 (HCo.out _ (.inr rfl))).mono ?_
        rintro e w4 ⟨g, cap, X, rfl, y0, y1, y2, y3, y4, yu, yh⟩
        exact hK _ _ (vb hG (s402 w4 g cap X y0 y1 y2 y3 y4 yu yh))
    have s321 : G 3 #[true, true, true, false, true, true, true, false, false] { tmps := #[.pointer (some ⟨b, 0, none⟩), undef, .pointer none, .pointer (some ⟨w.heap.size + 1 + 1, 0, none⟩), .pointer (some ⟨q, 0, none⟩), .pointer (some ⟨w.heap.size + 1, 0, none⟩), .pointer (some ⟨b, 0, none⟩), .func (.func 50) #[] #[.pointer (some ⟨w.heap.size + 1 + 1 + 1, 0, none⟩)], .agg #[.int .u64 xk, .int .i64 xp, .slice (some ⟨xg, 0, none⟩) 4096 xc], .pointer (some ⟨w.heap.size + 1, 0, none⟩), .pointer (some ⟨w.heap.size + 1, 0, none⟩), .pointer (some ⟨w.heap.size + 1, 0, none⟩), undef, .pointer (some ⟨q, 0, none⟩), .int .u64 xk, .agg #[.int .u64 xk, .int .i64 xp, .slice (some ⟨xg, 0, none⟩) 4096 xc], undef, undef], defers := [] } W.drew := by
      rw [hG]
      refine wpAnyIn_ready (rs := [3, 7]) (by kernel_rfl) (by simp) (AllReadyIn.cons rfl (fun K hK => ?_) (AllReadyIn.cons rfl (fun K hK => ?_) AllReadyIn.nil))
      · go_simp
        exact hK _ _ (vb hG s421)
      · go_simp
        refine ⟨trivial, ?_⟩
        refine (callsIn_wide.2 (HCo.out _ (.inr rfl))).mono ?_
        rintro e w4 ⟨g, cap, X, rfl, y0, y1, y2, y3, y4, yu, yh⟩
        exact hK _ _ (vb hG (s322 w4 g cap X y0 y1 y2 y3 y4 yu yh))
    have s311 : G 4 #[true, true, true, false, true, false, true, false, false] { tmps := #[.pointer (some ⟨b, 0, none⟩), undef, .pointer none, .pointer (some ⟨w.heap.size + 1 + 1, 0, none⟩), .pointer (some ⟨q, 0, none⟩), .pointer (some ⟨w.heap.size + 1, 0, none⟩), .pointer (some ⟨b, 0, none⟩), .func (.func 50) #[] #[.pointer (some ⟨w.heap.size + 1 + 1 + 1, 0, none⟩)], .agg #[.int .u64 xk, .int .i64 xp, .slice (some ⟨xg, 0, none⟩) 4096 xc], .pointer (some ⟨w.heap.size + 1, 0, none⟩), .pointer (some ⟨w.heap.size + 1, 0, none⟩), .pointer (some ⟨w.heap.size + 1, 0, none⟩), undef, .pointer (some ⟨q, 0, none⟩), undef, .agg #[.int .u64 xk, .int .i64 xp, .slice (some ⟨xg, 0, none⟩) 4096 xc], undef, undef], defers := [] } W.drew := by
      rw [hG]
      refine wpAnyIn_ready (rs := [3, 5, 7]) (by kernel_rfl) (by simp) (AllReadyIn.cons rfl (fun K hK => ?_) (AllReadyIn.cons rfl (fun K hK => ?_) (AllReadyIn.cons rfl (fun K hK => ?_) AllReadyIn.nil)))
      · go_simp
        exact hK _ _ (vb hG s411)
      · go_simp
        exact hK _ _ (vb hG s321)
      · go_simp
        refine ⟨trivial, ?_⟩
        refine (callsIn_wide.2 (HCo.out _ (.inr rfl))).mono ?_
        rintro e w4 ⟨g, cap, X, rfl, y0, y1, y2, y3, y4, yu, yh⟩
        exact hK _ _ (vb hG (s312 w4 g cap X y0 y1 y2 y3 y4 yu yh))
    have s301 : G 5 #[true, true, true, false, false, false, true, false, false] { tmps := #[.pointer (some ⟨b, 0, none⟩), undef, .pointer none, .pointer (some ⟨w.heap.size + 1 + 1, 0, none⟩), .pointer (some ⟨q, 0, none⟩), .pointer (some ⟨w.heap.size + 1, 0, none⟩), .pointer (some ⟨b, 0, none⟩), .func (.func 50) #[] #[.pointer (some ⟨w.heap.size + 1 + 1 + 1, 0, none⟩)], .agg #[.int .u64 xk, .int .i64 xp, .slice (some ⟨xg, 0, none⟩) 4096 xc], .pointer (some ⟨w.heap.size + 1, 0, none⟩), .pointer (some ⟨w.heap.size + 1, 0, none⟩), .pointer (some ⟨w.heap.size + 1, 0, none⟩), undef, undef, undef, .agg #[.int .u64 xk, .int .i64 xp, .slice (some ⟨xg, 0, none⟩) 4096 xc], undef, undef], defers := [] } W.drew := by
      rw [hG]
      refine wpAnyIn_ready (rs := [3, 4, 7]) (by kernel_rfl) (by simp) (AllReadyIn.cons rfl (fun K hK => ?_) (AllReadyIn.cons rfl (fun K hK => ?_) (AllReadyIn.cons rfl (fun K hK => ?_) AllReadyIn.nil)))
      · go_simp
        exact hK _ _ (vb hG s401)
      · go_simp
        exact hK _ _ (vb hG s311)
      · go_simp
        refine ⟨trivial, ?_⟩
        refine (callsIn_wide.2 (HCo.out _ (.inr rfl))).mono ?_
        rintro e w4 ⟨g, cap, X, rfl, y0, y1, y2, y3, y4, yu, yh⟩
        exact hK _ _ (vb hG (s302 w4 g cap X y0 y1 y2 y3 y4 yu yh))
    have s221 : G 4 #[true, true, false, false, true, true, true, false, false] { tmps := #[.pointer (some ⟨b, 0, none⟩), undef, .pointer none, .pointer (some ⟨w.heap.size + 1 + 1, 0, none⟩), .pointer (some ⟨q, 0, none⟩), .pointer (some ⟨w.heap.size + 1, 0, none⟩), .pointer (some ⟨b, 0, none⟩), .func (.func 50) #[] #[.pointer (some ⟨w.heap.size + 1 + 1 + 1, 0, none⟩)], .agg #[.int .u64 xk, .int .i64 xp, .slice (some ⟨xg, 0, none⟩) 4096 xc], .pointer (some ⟨w.heap.size + 1, 0, none⟩), .pointer (some ⟨w.heap.size + 1, 0, none⟩), undef, undef, .pointer (some ⟨q, 0, none⟩), .int .u64 xk, .agg #[.int .u64 xk, .int .i64 xp, .slice (some ⟨xg, 0, none⟩) 4096 xc], undef, undef], defers := [] } W.drew := by
      rw [hG]
      refine wpAnyIn_ready (rs := [2, 7]) (by kernel_rfl) (by simp) (AllReadyIn.cons rfl (fun K hK => ?_) (AllReadyIn.cons rfl (fun K hK => ?_) AllReadyIn.nil))
      · go_simp
        exact hK _ _ (vb hG s321)
      · go_simp
        refine ⟨trivial, ?_⟩
        refine (callsIn_wide.2 (HCo.out _ (.inr rfl))).mono ?_
        rintro e w4 ⟨g, cap, X, rfl, y0, y1, y2, y3, y4, yu, yh⟩
        exact hK _ _ (vb hG (s222 w4 g cap X y0 y1 y2 y3 y4 yu yh))
    have s211 : G 5 #[true, true, false, false, true, false, true, false, false] { tmps := #[.pointer (some ⟨b, 0, none⟩), undef, .pointer none, .pointer (some ⟨w.heap.size + 1 + 1, 0, none⟩), .pointer (some ⟨q, 0, none⟩), .pointer (some ⟨w.heap.size + 1, 0, none⟩), .pointer (some ⟨b, 0, none⟩), .func (.func 50) #[] #[.pointer (some ⟨w.heap.size + 1 + 1 + 1, 0, none⟩)], .agg #[.int .u64 xk, .int .i64 xp, .slice (some ⟨xg, 0, none⟩) 4096 xc], .pointer (some ⟨w.heap.size + 1, 0, none⟩), .pointer (some ⟨w.heap.size + 1, 0, none⟩), undef, undef, .pointer (some ⟨q, 0, none⟩), undef, .agg #[.int .u64 xk, .int .i64 xp, .slice (some ⟨xg, 0, none⟩) 4096 xc], undef, undef], defers := [] } W.drew := by
      rw [hG]
      refine wpAnyIn_ready (rs := [2, 5, 7]) (by kernel_rfl) (by simp) (AllReadyIn.cons rfl (fun K hK => ?_) (AllReadyIn.cons rfl (fun K hK => ?_) (AllReadyIn.cons rfl (fun K hK => ?_) AllReadyIn.nil)))
      · go_simp
        exact hK _ _ (vb hG s311)
      · go_simp
        exact hK _ _ (vb hG s221)
      · go_simp
        refine ⟨trivial, ?_⟩
        refine (callsIn_wide.2 (HCo.out _ (.inr rfl))).mono ?_
        rintro e w4 ⟨g, cap, X, rfl, y0, y1, y2, y3, y4, yu, yh⟩
        exact hK _ _ (vb hG (s212 w4 g cap X y0 y1 y2 y3 y4 yu yh))
    have s201 : G 6 #[true, true, false, false, false, false, true, false, false] { tmps := #[.pointer (some ⟨b, 0, none⟩), undef, .pointer none, .pointer (some ⟨w.heap.size + 1 + 1, 0, none⟩), .pointer (some ⟨q, 0, none⟩), .pointer (some ⟨w.heap.size + 1, 0, none⟩), .pointer (some ⟨b, 0, none⟩), .func (.func 50) #[] #[.pointer (some ⟨w.heap.size + 1 + 1 + 1, 0, none⟩)], .agg #[.int .u64 xk, .int .i64 xp, .slice (some ⟨xg, 0, none⟩) 4096 xc], .pointer (some ⟨w.heap.size + 1, 0, none⟩), .pointer (some ⟨w.heap.size + 1, 0, none⟩), undef, undef, undef, undef, .agg #[.int .u64 xk, .int .i64 xp, .slice (some ⟨xg, 0, none⟩) 4096 xc], undef, undef], defers := [] } W.drew := by
      rw [hG]
      refine wpAnyIn_ready (rs := [2, 4, 7]) (by kernel_rfl) (by simp) (AllReadyIn.cons rfl (fun K hK => ?_) (AllReadyIn.cons rfl (fun K hK => ?_) (AllReadyIn.cons rfl (fun K hK => ?_) AllReadyIn.nil)))
      · go_simp
        exact hK _ _ (vb hG s301)
      · go_simp
        exact hK _ _ (vb hG s211)
      · go_simp
        refine ⟨trivial, ?_⟩
        refine (callsIn_wide.2 (HCo.out _ (.inr rfl))).mono ?_
        rintro e w4 ⟨g, cap, X, rfl, y0, y1, y2, y3, y4, yu, yh⟩
        exact hK _ _ (vb hG (s202 w4 g cap X y0 y1 y2 y3 y4 yu yh))
    have s121 : G 5 #[true, false, false, false, true, true, true, false, false] { tmps := #[.pointer (some ⟨b, 0, none⟩), undef, .pointer none, .pointer (some ⟨w.heap.size + 1 + 1, 0, none⟩), .pointer (some ⟨q, 0, none⟩), .pointer (some ⟨w.heap.size + 1, 0, none⟩), .pointer (some ⟨b, 0, none⟩), .func (.func 50) #[] #[.pointer (some ⟨w.heap.size + 1 + 1 + 1, 0, none⟩)], .agg #[.int .u64 xk, .int .i64 xp, .slice (some ⟨xg, 0, none⟩) 4096 xc], .pointer (some ⟨w.heap.size + 1, 0, none⟩), undef, undef, undef, .pointer (some ⟨q, 0, none⟩), .int .u64 xk, .agg #[.int .u64 xk, .int .i64 xp, .slice (some ⟨xg, 0, none⟩) 4096 xc], undef, undef], defers := [] } W.drew := by
      rw [hG]
      refine wpAnyIn_ready (rs := [1, 7]) (by kernel_rfl) (by simp) (AllReadyIn.cons rfl (fun K hK => ?_) (AllReadyIn.cons rfl (fun K hK => ?_) AllReadyIn.nil))
      · go_simp
        exact hK _ _ (vb hG s221)
      · go_simp
        refine ⟨trivial, ?_⟩
        refine (callsIn_wide.2 (HCo.out _ (.inr rfl))).mono ?_
        rintro e w4 ⟨g, cap, X, rfl, y0, y1, y2, y3, y4, yu, yh⟩
        exact hK _ _ (vb hG (s122 w4 g cap X y0 y1 y2 y3 y4 yu yh))
    have s111 : G 6 #[true, false, false, false, true, false, true, false, false] { tmps := #[.pointer (some ⟨b, 0, none⟩), undef, .pointer none, .pointer (some ⟨w.heap.size + 1 + 1, 0, none⟩), .pointer (some ⟨q, 0, none⟩), .pointer (some ⟨w.heap.size + 1, 0, none⟩), .pointer (some ⟨b, 0, none⟩), .func (.func 50) #[] #[.pointer (some ⟨w.heap.size + 1 + 1 + 1, 0, none⟩)], .agg #[.int .u64 xk, .int .i64 xp, .slice (some ⟨xg, 0, none⟩) 4096 xc], .pointer (some ⟨w.heap.size + 1, 0, none⟩), undef, undef, undef, .pointer (some ⟨q, 0, none⟩), undef, .agg #[.int .u64 xk, .int .i64 xp, .slice (some ⟨xg, 0, none⟩) 4096 xc], undef, undef], defers := [] } W.drew := by
      rw [hG]
      refine wpAnyIn_ready (rs := [1, 5, 7]) (by kernel_rfl) (by simp) (AllReadyIn.cons rfl (fun K hK => ?_) (AllReadyIn.cons rfl (fun K hK => ?_) (AllReadyIn.cons rfl (fun K hK => ?_) AllReadyIn.nil)))
      · go_simp
        exact hK _ _ (vb hG s211)
      · go_simp
        exact hK _ _ (vb hG s121)
      · go_simp
        refine ⟨trivial, ?_⟩
        refine (callsIn_wide.2 (HCo.out _ (.inr rfl))).mono ?_
        rintro e w4 ⟨g, cap, X, rfl, y0, y1, y2, y3, y4, yu, yh⟩
        exact hK _ _ (vb hG (s112 w4 g cap X y0 y1 y2 y3 y4 yu yh))
    have s101 : G 7 #[true, false, false, false, false, false, true, false, false] { tmps := #[.pointer (some ⟨b, 0, none⟩), undef, .pointer none, .pointer (some ⟨w.heap.size + 1 + 1, 0, none⟩), .pointer (some ⟨q, 0, none⟩), .pointer (some ⟨w.heap.size + 1, 0, none⟩), .pointer (some ⟨b, 0, none⟩), .func (.func 50) #[] #[.pointer (some ⟨w.heap.size + 1 + 1 + 1, 0, none⟩)], .agg #[.int .u64 xk, .int .i64 xp, .slice (some ⟨xg, 0, none⟩) 4096 xc], .pointer (some ⟨w.heap.size + 1, 0, none⟩), undef, undef, undef, undef, undef, .agg #[.int .u64 xk, .int .i64 xp, .slice (some ⟨xg, 0, none⟩) 4096 xc], undef, undef], defers := [] } W.drew := by
      rw [hG]
      refine wpAnyIn_ready (rs := [1, 4, 7]) (by kernel_rfl) (by simp) (AllReadyIn.cons rfl (fun K hK => ?_) (AllReadyIn.cons rfl (fun K hK => ?_) (AllReadyIn.cons rfl (fun K hK => ?_) AllReadyIn.nil)))
      · go_simp
        exact hK _ _ (vb hG s201)
      · go_simp
        exact hK _ _ (vb hG s111)
      · go_simp
        refine ⟨trivial, ?_⟩
        refine (callsIn_wide.2 (HCo.out _ (.inr rfl))).mono ?_
        rintro e w4 ⟨g, cap, X, rfl, y0, y1, y2, y3, y4, yu, yh⟩
        exact hK _ _ (vb hG (s102 w4 g cap X y0 y1 y2 y3 y4 yu yh))
    have s021 : G 6 #[false, false, false, false, true, true, true, false, false] { tmps := #[.pointer (some ⟨b, 0, none⟩), undef, .pointer none, .pointer (some ⟨w.heap.size + 1 + 1, 0, none⟩), .pointer (some ⟨q, 0, none⟩), .pointer (some ⟨w.heap.size + 1, 0, none⟩), .pointer (some ⟨b, 0, none⟩), .func (.func 50) #[] #[.pointer (some ⟨w.heap.size + 1 + 1 + 1, 0, none⟩)], .agg #[.int .u64 xk, .int .i64 xp, .slice (some ⟨xg, 0, none⟩) 4096 xc], undef, undef, undef, undef, .pointer (some ⟨q, 0, none⟩), .int .u64 xk, .agg #[.int .u64 xk, .int .i64 xp, .slice (some ⟨xg, 0, none⟩) 4096 xc], undef, undef], defers := [] } W.drew := by
      rw [hG]
      refine wpAnyIn_ready (rs := [0, 7]) (by kernel_rfl) (by simp) (AllReadyIn.cons rfl (fun K hK => ?_) (AllReadyIn.cons rfl (fun K hK => ?_) AllReadyIn.nil))
      · go_simp
        exact hK _ _ (vb hG s121)
      · go_simp
        refine ⟨trivial, ?_⟩
        refine (callsIn_wide.2 (HCo.out _ (.inr rfl))).mono ?_
        rintro e w4 ⟨g, cap, X, rfl, y0, y1, y2, y3, y4, yu, yh⟩
        exact hK _ _ (vb hG (s022 w4 g cap X y0 y1 y2 y3 y4 yu yh))
    have s011 : G 7 #[false, false, false, false, true, false, true, false, false] { tmps := #[.pointer (some ⟨b, 0, none⟩), undef, .pointer none, .pointer (some ⟨w.heap.size + 1 + 1, 0, none⟩), .pointer (some ⟨q, 0, none⟩), .pointer (some ⟨w.heap.size + 1, 0, none⟩), .pointer (some ⟨b, 0, none⟩), .func (.func 50) #[] #[.pointer (some ⟨w.heap.size + 1 + 1 + 1, 0, none⟩)], .agg #[.int .u64 xk, .int .i64 xp, .slice (some ⟨xg, 0, none⟩) 4096 xc], undef, undef, undef, undef, .pointer (some ⟨q, 0, none⟩), undef, .agg #[.int .u64 xk, .int .i64 xp, .slice (some ⟨xg, 0, none⟩) 4096 xc], undef, undef], defers := [] } W.drew := by
      rw [hG]
      refine wpAnyIn_ready (rs := [0, 5, 7]) (by kernel_rfl) (by simp) (AllReadyIn.cons rfl (fun K hK => ?_) (AllReadyIn.cons rfl (fun K hK => ?_) (AllReadyIn.cons rfl (fun K hK => ?_) AllReadyIn.nil)))
      · go_simp
        exact hK _ _ (vb hG s111)
      · go_simp
        exact hK _ _ (vb hG s021)
      · go_simp
        refine ⟨trivial, ?_⟩
        refine (callsIn_wide.2 (HCo.out _ (.inr rfl))).mono ?_
        rintro e w4 ⟨g, cap, X, rfl, y0, y1, y2, y3, y4, yu, yh⟩
        exact hK _ _ (vb hG (s012 w4 g cap X y0 y1 y2 y3 y4 yu yh))
    have s001 : G 8 #[false, false, false, false, false, false, true, false, false] { tmps := #[.pointer (some ⟨b, 0, none⟩), undef, .pointer none, .pointer (some ⟨w.heap.size + 1 + 1, 0, none⟩), .pointer (some ⟨q, 0, none⟩), .pointer (some ⟨w.heap.size + 1, 0, none⟩), .pointer (some ⟨b, 0, none⟩), .func (.func 50) #[] #[.pointer (some ⟨w.heap.size + 1 + 1 + 1, 0, none⟩)], .agg #[.int .u64 xk, .int .i64 xp, .slice (some ⟨xg, 0, none⟩) 4096 xc], undef, undef, undef, undef, undef, undef, .agg #[.int .u64 xk, .int .i64 xp, .slice (some ⟨xg, 0, none⟩) 4096 xc], undef, undef], defers := [] } W.drew := by
      rw [hG]
      refine wpAnyIn_ready (rs := [0, 4, 7]) (by kernel_rfl) (by simp) (AllReadyIn.cons rfl (fun K hK => ?_) (AllReadyIn.cons rfl (fun K hK => ?_) (AllReadyIn.cons rfl (fun K hK => ?_) AllReadyIn.nil)))
      · go_simp
        exact hK _ _ (vb hG s101)
      · go_simp
        exact hK _ _ (vb hG s011)
      · go_simp
        refine ⟨trivial, ?_⟩
        refine (callsIn_wide.2 (HCo.out _ (.inr rfl))).mono ?_
        rintro e w4 ⟨g, cap, X, rfl, y0, y1, y2, y3, y4, yu, yh⟩
        exact hK _ _ (vb hG (s002 w4 g cap X y0 y1 y2 y3 y4 yu yh))
    have s420 : G 3 #[true, true, true, true, true, true, false, false, false] { tmps := #[.pointer (some ⟨b, 0, none⟩), undef, .pointer none, .pointer (some ⟨w.heap.size + 1 + 1, 0, none⟩), .pointer (some ⟨q, 0, none⟩), .pointer (some ⟨w.heap.size + 1, 0, none⟩), .pointer (some ⟨b, 0, none⟩), .func (.func 50) #[] #[.pointer (some ⟨w.heap.size + 1 + 1 + 1, 0, none⟩)], .agg #[.int .u64 xk, .int .i64 xp, .slice (some ⟨xg, 0, none⟩) 4096 xc], .pointer (some ⟨w.heap.size + 1, 0, none⟩), .pointer (some ⟨w.heap.size + 1, 0, none⟩), .pointer (some ⟨w.heap.size + 1, 0, none⟩), .map (some w.heap.size), .pointer (some ⟨q, 0, none⟩), .int .u64 xk, undef, undef, undef], defers := [] } W.drew := by
      rw [hG]
      refine wpAnyIn_ready (rs := [6]) (by kernel_rfl) (by simp) (AllReadyIn.cons rfl (fun K hK => ?_) AllReadyIn.nil)
      · go_simp
        exact hK _ _ (vb hG s421)
    have s410 : G 4 #[true, true, true, true, true, false, false, false, false] { tmps := #[.pointer (some ⟨b, 0, none⟩), undef, .pointer none, .pointer (some ⟨w.heap.size + 1 + 1, 0, none⟩), .pointer (some ⟨q, 0, none⟩), .pointer (some ⟨w.heap.size + 1, 0, none⟩), .pointer (some ⟨b, 0, none⟩), .func (.func 50) #[] #[.pointer (some ⟨w.heap.size + 1 + 1 + 1, 0, none⟩)], .agg #[.int .u64 xk, .int .i64 xp, .slice (some ⟨xg, 0, none⟩) 4096 xc], .pointer (some ⟨w.heap.size + 1, 0, none⟩), .pointer (some ⟨w.heap.size + 1, 0, none⟩), .pointer (some ⟨w.heap.size + 1, 0, none⟩), .map (some w.heap.size), .pointer (some ⟨q, 0, none⟩), undef, undef, undef, undef], defers := [] } W.drew := by
      rw [hG]
      refine wpAnyIn_ready (rs := [5, 6]) (by kernel_rfl) (by simp) (AllReadyIn.cons rfl (fun K hK => ?_) (AllReadyIn.cons rfl (fun K hK => ?_) AllReadyIn.nil))
      · go_simp
        exact hK _ _ (vb hG s420)
      · go_simp
        exact hK _ _ (vb hG s411)
    have s400 : G 5 #[true, true, true, true, false, false, false, false, false] { tmps := #[.pointer (some ⟨b, 0, none⟩), undef, .pointer none, .pointer (some ⟨w.heap.size + 1 + 1, 0, none⟩), .pointer (some ⟨q, 0, none⟩), .pointer (some ⟨w.heap.size + 1, 0, none⟩), .pointer (some ⟨b, 0, none⟩), .func (.func 50) #[] #[.pointer (some ⟨w.heap.size + 1 + 1 + 1, 0, none⟩)], .agg #[.int .u64 xk, .int .i64 xp, .slice (some ⟨xg, 0, none⟩) 4096 xc], .pointer (some ⟨w.heap.size + 1, 0, none⟩), .pointer (some ⟨w.heap.size + 1, 0, none⟩), .pointer (some ⟨w.heap.size + 1, 0, none⟩), .map (some w.heap.size), undef, undef, undef, undef, undef], defers := [] } W.drew := by
      rw [hG]
      refine wpAnyIn_ready (rs := [4, 6]) (by kernel_rfl) (by simp) (AllReadyIn.cons rfl (fun K hK => ?_) (AllReadyIn.cons rfl (fun K hK => ?_) AllReadyIn.nil))
      · go_simp
        exact hK _ _ (vb hG s410)
      · go_simp
        exact hK _ _ (vb hG s401)
    have s320 : G 4 #[true, true, true, false, true, true, false, false, false] { tmps := #[.pointer (some ⟨b, 0, none⟩), undef, .pointer none, .pointer (some ⟨w.heap.size + 1 + 1, 0, none⟩), .pointer (some ⟨q, 0, none⟩), .pointer (some ⟨w.heap.size + 1, 0, none⟩), .pointer (some ⟨b, 0, none⟩), .func (.func 50) #[] #[.pointer (some ⟨w.heap.size + 1 + 1 + 1, 0, none⟩)], .agg #[.int .u64 xk, .int .i64 xp, .slice (some ⟨xg, 0, none⟩) 4096 xc], .pointer (some ⟨w.heap.size + 1, 0, none⟩), .pointer (some ⟨w.heap.size + 1, 0, none⟩), .pointer (some ⟨w.heap.size + 1, 0, none⟩), undef, .pointer (some ⟨q, 0, none⟩), .int .u64 xk, undef, undef, undef], defers := [] } W.drew := by
      rw [hG]
      refine wpAnyIn_ready (rs := [3, 6]) (by kernel_rfl) (by simp) (AllReadyIn.cons rfl (fun K hK => ?_) (AllReadyIn.cons rfl (fun K hK => ?_) AllReadyIn.nil))
      · go_simp
        exact hK _ _ (vb hG s420)
      · go_simp
        exact hK _ _ (vb hG s321)
    have s310 : G 5 #[true, true, true, false, true, false, false, false, false] { tmps := #[.pointer (some ⟨b, 0, none⟩), undef, .pointer none, .pointer (some ⟨w.heap.size + 1 + 1, 0, none⟩), .pointer (some ⟨q, 0, none⟩), .pointer (some ⟨w.heap.size + 1, 0, none⟩), .pointer (some ⟨b, 0, none⟩), .func (.func 50) #[] #[.pointer (some ⟨w.heap.size + 1 + 1 + 1, 0, none⟩)], .agg #[.int .u64 xk, .int .i64 xp, .slice (some ⟨xg, 0, none⟩) 4096 xc], .pointer (some ⟨w.heap.size + 1, 0, none⟩), .pointer (some ⟨w.heap.size + 1, 0, none⟩), .pointer (some ⟨w.heap.size + 1, 0, none⟩), undef, .pointer (some ⟨q, 0, none⟩), undef, undef, undef, undef], defers := [] } W.drew := by
      rw [hG]
      refine wpAnyIn_ready (rs := [3, 5, 6]) (by kernel_rfl) (by simp) (AllReadyIn.cons rfl (fun K hK => ?_) (AllReadyIn.cons rfl (fun K hK => ?_) (AllReadyIn.cons rfl (fun K hK => ?_) AllReadyIn.nil)))
      · go_simp
        exact hK _ _ (vb hG s410)
      · go_simp
        exact hK _ _ (vb hG s320)
      · go_simp
        exact hK _ _ (vb hG s311)
    have s300 : G 6 #[true, true, true, false, false, false, false, false, false] { tmps := #[.pointer (some ⟨b, 0, none⟩), undef, .pointer none, .pointer (some ⟨w.heap.size + 1 + 1, 0, none⟩), .pointer (some ⟨q, 0, none⟩), .pointer (some ⟨w.heap.size + 1, 0, none⟩), .pointer (some ⟨b, 0, none⟩), .func (.func 50) #[] #[.pointer (some ⟨w.heap.size + 1 + 1 + 1, 0, none⟩)], .agg #[.int .u64 xk, .int .i64 xp, .slice (some ⟨xg, 0, none⟩) 4096 xc], .pointer (some ⟨w.heap.size + 1, 0, none⟩), .pointer (some ⟨w.heap.size + 1, 0, none⟩), .pointer (some ⟨w.heap.size + 1, 0, none⟩), undef, undef, undef, undef, undef, undef], defers := [] } W.drew := by
      rw [hG]
      refine wpAnyIn_ready (rs := [3, 4, 6]) (by kernel_rfl) (by simp) (AllReadyIn.cons rfl (fun K hK => ?_) (AllReadyIn.cons rfl (fun K hK => ?_) (AllReadyIn.cons rfl (fun K hK => ?_) AllReadyIn.nil)))
      · go_simp
        exact hK _ _ (vb hG s400)
      · go_simp
        exact hK _ _ (vb hG s310)
      · go_simp
        exact hK _ _ (vb hG s301)
    have s220 : G 5 #[true, true, false, false, true, true, false, false, false] { tmps := #[.pointer (some ⟨b, 0, none⟩), undef, .pointer none, .pointer (some ⟨w.heap.size + 1 + 1, 0, none⟩), .pointer (some ⟨q, 0, none⟩), .pointer (some ⟨w.heap.size + 1, 0, none⟩), .pointer (some ⟨b, 0, none⟩), .func (.func 50) #[] #[.pointer (some ⟨w.heap.size + 1 + 1 + 1, 0, none⟩)], .agg #[.int .u64 xk, .int .i64 xp, .slice (some ⟨xg, 0, none⟩) 4096 xc], .pointer (some ⟨w.heap.size + 1, 0, none⟩), .pointer (some ⟨w.heap.size + 1, 0, none⟩), undef, undef, .pointer (some ⟨q, 0, none⟩), .int .u64 xk, undef, undef, undef], defers := [] } W.drew := by
      rw [hG]
      refine wpAnyIn_ready (rs := [2, 6]) (by kernel_rfl) (by simp) (AllReadyIn.cons rfl (fun K hK => ?_) (AllReadyIn.cons rfl (fun K hK => ?_) AllReadyIn.nil))
      · go_simp
        exact hK _ _ (vb hG s320)
      · go_simp
        exact hK _ _ (vb hG s221)
    have s210 : G 6 #[true, true, false, false, true, false, false, false, false] { tmps := #[.pointer (some ⟨b, 0, none⟩), undef, .pointer none, .pointer (some ⟨w.heap.size + 1 + 1, 0, none⟩), .pointer (some ⟨q, 0, none⟩), .pointer (some ⟨w.heap.size + 1, 0, none⟩), .pointer (some ⟨b, 0, none⟩), .func (.func 50) #[] #[.pointer (some ⟨w.heap.size + 1 + 1 + 1, 0, none⟩)], .agg #[.int .u64 xk, .int .i64 xp, .slice (some ⟨xg, 0, none⟩) 4096 xc], .pointer (some ⟨w.heap.size + 1, 0, none⟩), .pointer (some ⟨w.heap.size + 1, 0, none⟩), undef, undef, .pointer (some ⟨q, 0, none⟩), undef, undef, undef, undef], defers := [] } W.drew := by
      rw [hG]
      refine wpAnyIn_ready (rs := [2, 5, 6]) (by kernel_rfl) (by simp) (AllReadyIn.cons rfl (fun K hK => ?_) (AllReadyIn.cons rfl (fun K hK => ?_) (AllReadyIn.cons rfl (fun K hK => ?_) AllReadyIn.nil)))
      · go_simp
        exact hK _ _ (vb hG s310)
      · go_simp
        exact hK _ _ (vb hG s220)
      · go_simp
        exact hK _ _ (vb hG s211)
    have s200 : G 7 #[true, true, false, false, false, false, false, false, false] { tmps := #[.pointer (some ⟨b, 0, none⟩), undef, .pointer none, .pointer (some ⟨w.heap.size + 1 + 1, 0, none⟩), .pointer (some ⟨q, 0, none⟩), .pointer (some ⟨w.heap.size + 1, 0, none⟩), .pointer (some ⟨b, 0, none⟩), .func (.func 50) #[] #[.pointer (some ⟨w.heap.size + 1 + 1 + 1, 0, none⟩)], .agg #[.int .u64 xk, .int .i64 xp, .slice (some ⟨xg, 0, none⟩) 4096 xc], .pointer (some ⟨w.heap.size + 1, 0, none⟩), .pointer (some ⟨w.heap.size + 1, 0, none⟩), undef, undef, undef, undef, undef, undef, undef], defers := [] } W.drew := by
      rw [hG]
      refine wpAnyIn_ready (rs := [2, 4, 6]) (by kernel_rfl) (by simp) (AllReadyIn.cons rfl (fun K hK => ?_) (AllReadyIn.cons rfl (fun K hK => ?_) (AllReadyIn.cons rfl (fun K hK => ?_) AllReadyIn.nil)))
      · go_simp
        exact hK _ _ (vb hG s300)
      · go_simp
        exact hK _ _ (vb hG s210)
      · go_simp
        exact hK _ _ (vb hG s201)
    have s120 : G 6 #[true, false, false, false, true, true, false, false, false] { tmps := #[.pointer (some ⟨b, 0, none⟩), undef, .pointer none, .pointer (some ⟨w.heap.size + 1 + 1, 0, none⟩), .pointer (some ⟨q, 0, none⟩), .pointer (some ⟨w.heap.size + 1, 0, none⟩), .pointer (some ⟨b, 0, none⟩), .func (.func 50) #[] #[.pointer (some ⟨w.heap.size + 1 + 1 + 1, 0, none⟩)], .agg #[.int .u64 xk, .int .i64 xp, .slice (some ⟨xg, 0, none⟩) 4096 xc], .pointer (some ⟨w.heap.size + 1, 0, none⟩), undef, undef, undef, .pointer (some ⟨q, 0, none⟩), .int .u64 xk, undef, undef, undef], defers := [] } W.drew := by
      rw [hG]
      refine wpAnyIn_ready (rs := [1, 6]) (by kernel_rfl) (by simp) (AllReadyIn.cons rfl (fun K hK => ?_) (AllReadyIn.cons rfl (fun K hK => ?_) AllReadyIn.nil))
      · go_simp
        exact hK _ _ (vb hG s220)
      · go_simp
        exact hK _ _ (vb hG s121)
    have s110 : G 7 #[true, false, false, false, true, false, false, false, false] { tmps := #[.pointer (some ⟨b, 0, none⟩), undef, .pointer none, .pointer (some ⟨w.heap.size + 1 + 1, 0, none⟩), .pointer (some ⟨q, 0, none⟩), .pointer (some ⟨w.heap.size + 1, 0, none⟩), .pointer (some ⟨b, 0, none⟩), .func (.func 50) #[] #[.pointer (some ⟨w.heap.size + 1 + 1 + 1, 0, none⟩)], .agg #[.int .u64 xk, .int .i64 xp, .slice (some ⟨xg, 0, none⟩) 4096 xc], .pointer (some ⟨w.heap.size + 1, 0, none⟩), undef, undef, undef, .pointer (some ⟨q, 0, none⟩), undef, undef, undef, undef], defers := [] } W.drew := by
      rw [hG]
      refine wpAnyIn_ready (rs := [1, 5, 6]) (by kernel_rfl) (by simp) (AllReadyIn.cons rfl (fun K hK => ?_) (AllReadyIn.cons rfl (fun K hK => ?_) (AllReadyIn.cons rfl (fun K hK => ?_) AllReadyIn.nil)))
      · go_simp
        exact hK _ _ (vb hG s210)
      · go_simp
        exact hK _ _ (vb hG s120)
      · go_simp
        exact hK _ _ (vb hG s111)
    have s100 : G 8 #[true, false, false, false, false, false, false, false, false] { tmps := #[.pointer (some ⟨b, 0, none⟩), undef, .pointer none, .pointer (some ⟨w.heap.size + 1 + 1, 0, none⟩), .pointer (some ⟨q, 0, none⟩), .pointer (some ⟨w.heap.size + 1, 0, none⟩), .pointer (some ⟨b, 0, none⟩), .func (.func 50) #[] #[.pointer (some ⟨w.heap.size + 1 + 1 + 1, 0, none⟩)], .agg #[.int .u64 xk, .int .i64 xp, .slice (some ⟨xg, 0, none⟩) 4096 xc], .pointer (some ⟨w.heap.size + 1, 0, none⟩), undef, undef, undef, undef, undef, undef, undef, undef], defers := [] } W.drew := by
      rw [hG]
      refine wpAnyIn_ready (rs := [1, 4, 6]) (by kernel_rfl) (by simp) (AllReadyIn.cons rfl (fun K hK => ?_) (AllReadyIn.cons rfl (fun K hK => ?_) (AllReadyIn.cons rfl (fun K hK => ?_) AllReadyIn.nil)))
      · go_simp
        exact hK _ _ (vb hG s200)
      · go_simp
        exact hK _ _ (vb hG s110)
      · go_simp
        exact hK _ _ (vb hG s101)
    have s020 : G 7 #[false, false, false, false, true, true, false, false, false] { tmps := #[.pointer (some ⟨b, 0, none⟩), undef, .pointer none, .pointer (some ⟨w.heap.size + 1 + 1, 0, none⟩), .pointer (some ⟨q, 0, none⟩), .pointer (some ⟨w.heap.size + 1, 0, none⟩), .pointer (some ⟨b, 0, none⟩), .func (.func 50) #[] #[.pointer (some ⟨w.heap.size + 1 + 1 + 1, 0, none⟩)], .agg #[.int .u64 xk, .int .i64 xp, .slice (some ⟨xg, 0, none⟩) 4096 xc], undef, undef, undef, undef, .pointer (some ⟨q, 0, none⟩), .int .u64 xk, undef, undef, undef], defers := [] } W.drew := by
      rw [hG]
      refine wpAnyIn_ready (rs := [0, 6]) (by kernel_rfl) (by simp) (AllReadyIn.cons rfl (fun K hK => ?_) (AllReadyIn.cons rfl (fun K hK => ?_) AllReadyIn.nil))
      · go_simp
        exact hK _ _ (vb hG s120)
      · go_simp
        exact hK _ _ (vb hG s021)
    have s010 : G 8 #[false, false, false, false, true, false, false, false, false] { tmps := #[.pointer (some ⟨b, 0, none⟩), undef, .pointer none, .pointer (some ⟨w.heap.size + 1 + 1, 0, none⟩), .pointer (some ⟨q, 0, none⟩), .pointer (some ⟨w.heap.size + 1, 0, none⟩), .pointer (some ⟨b, 0, none⟩), .func (.func 50) #[] #[.pointer (some ⟨w.heap.size + 1 + 1 + 1, 0, none⟩)], .agg #[.int .u64 xk, .int .i64 xp, .slice (some ⟨xg, 0, none⟩) 4096 xc], undef, undef, undef, undef, .pointer (some ⟨q, 0, none⟩), undef, undef, undef, undef], defers := [] } W.drew := by
      rw [hG]
      refine wpAnyIn_ready (rs := [0, 5, 6]) (by kernel_rfl) (by simp) (AllReadyIn.cons rfl (fun K hK => ?_) (AllReadyIn.cons rfl (fun K hK => ?_) (AllReadyIn.cons rfl (fun K hK => ?_) AllReadyIn.nil)))
      · go_simp
        exact hK _ _ (vb hG s110)
      · go_simp
        exact hK _ _ (vb hG s020)
      · go_simp
        exact hK _ _ (vb hG s011)
    have s000 : G 9 #[false, false, false, false, false, false, false, false, false] { tmps := #[.pointer (some ⟨b, 0, none⟩), undef, .pointer none, .pointer (some ⟨w.heap.size + 1 + 1, 0, none⟩), .pointer (some ⟨q, 0, none⟩), .pointer (some ⟨w.heap.size + 1, 0, none⟩), .pointer (some ⟨b, 0, none⟩), .func (.func 50) #[] #[.pointer (some ⟨w.heap.size + 1 + 1 + 1, 0, none⟩)], .agg #[.int .u64 xk, .int .i64 xp, .slice (some ⟨xg, 0, none⟩) 4096 xc], undef, undef, undef, undef, undef, undef, undef, undef, undef], defers := [] } W.drew := by
      rw [hG]
      refine wpAnyIn_ready (rs := [0, 4, 6]) (by kernel_rfl) (by simp) (AllReadyIn.cons rfl (fun K hK => ?_) (AllReadyIn.cons rfl (fun K hK => ?_) (AllReadyIn.cons rfl (fun K hK => ?_) AllReadyIn.nil)))
      · go_simp
        exact hK _ _ (vb hG s100)
      · go_simp
        exact hK _ _ (vb hG s010)
      · go_simp
        exact hK _ _ (vb hG s001)
    exact s000
  case done =>
    rintro D ys W hD hS ⟨⟨hv, hvm⟩, hcl, hsz, hB⟩ hK
    subst hS
    have hc := hv.cell
    have HX : Hid (Cl W (w.heap.size + 1) w.heap.size ps.length k p Y w.heap.size (List.finRange ps.length)) := hcl
    clear hcl
    gi_wp2
    refine ⟨by simp, .inl ⟨_, _, rfl, run_takeDeferred hK, ?_⟩⟩
    have hg := grownBy_putObj' W D (.deferred none)
    obtain ⟨qs, hq⟩ := HX.out.fr (by rw [List.length_finRange]; exact (List.take_of_length_le (by simp)).symm)
    rw [List.length_finRange, HM.out.len] at hq
    exact ⟨_, results_tmp rfl _ _ _, rfl, ⟨qs, hq.grown hg (by intro e; have := Option.some.inj e; omega) (by intro e; have := Option.some.inj e; omega) (by intro j e; cases e; exact ⟨_, hK, rfl⟩)⟩, hB.trans (belowK_b (w := w) (Nat.le_refl _) W D _ _ (by omega) hK rfl rfl)⟩
  case stop =>
    rintro D c pre W _ _ h _
    exact h.elim
end Go.Proofs.Ytndbkkldfinggab
