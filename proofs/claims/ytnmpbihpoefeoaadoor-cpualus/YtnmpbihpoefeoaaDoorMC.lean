/- Of a memory: From and Fetch (MC). -/
import Derived.Test.YtnmpbihpoefeoaaDoorMB
namespace Go.Proofs.YtnmpbihpoefeoaaDoor
open Go.RowKit Go.Shelf
attribute [local go_sem] Oper.semAt_some
def runV (a n : Int) (X : Nat → Pgd) (i : Nat) : Value := .slice (some ⟨(X i).g, pO a i, none⟩) (pL a n i) ((X i).c - pO a i)
/-- The bytes of a piece. -/
def pBy (a n : Int) (X : Nat → Pgd) (bt : Nat → Nat → Int) (i : Nat) : List Int := (List.range (pL a n i)).map fun j => bt (X i).g (pO a i + j)
/-- A byte more, behind k. -/
def shB (k : Nat) (y : Int) : Int := IntKind.u64.wrap (y * 2 ^ (min (8 * k) 64))
def orB (v : Int) (k : Nat) (y : Int) : Int := bits .or .u64 v (shB k y)
def accS (l : List Int) : Int × Nat := l.foldl (fun p y => (orB p.1 p.2 y, p.2 + 1)) (0, 0)
def accV (l : List Int) : Int := (accS l).1
theorem accS_len (l : List Int) : (accS l).2 = l.length := by
  have : ∀ (l : List Int) (p : Int × Nat), (l.foldl (fun p y => (orB p.1 p.2 y, p.2 + 1)) p).2 = p.2 + l.length := by
    intro l
    induction l with
    | nil => intro p; simp
    | cons x r ih => intro p; rw [List.foldl_cons, ih]; simp; omega
  simpa [accS] using this l (0, 0)
theorem accV_snoc (l : List Int) (y : Int) : accV (l ++ [y]) = orB (accV l) l.length y := by
  unfold accV
  rw [← accS_len l]
  simp [accS, List.foldl_append]
theorem pL_le {a n : Int} {i : Nat} (a0 : 0 ≤ a) (h : pl a i < a + n) : (pL a n i : Int) ≤ n ∧ pO a i + pL a n i ≤ 4096 := by
  obtain ⟨q, o, L, k1, k2, k3, k4, k5, k6, k7, k8, k9, k10, k11⟩ := p_facts (n := n) (i := i) a0 h
  have : a ≤ pl a i := by unfold pl; omega
  rw [k10, k3]
  omega
theorem pBy_len (a n : Int) (X : Nat → Pgd) (bt : Nat → Nat → Int) (i : Nat) : (pBy a n X bt i).length = pL a n i := by simp [pBy]
set_option maxRecDepth 100000 in
set_option maxHeartbeats 2000000 in
theorem value_any (b r : Nat) (ps : List Pgd) (bt : Nat → Nat → Int) (a n : Int) (m : Nat) (X : Nat → Pgd) (w : World) (h : Mm w b r ps bt) (a0 : 0 ≤ a) (n0 : 1 ≤ n) (n1 : n ≤ 8) (h48 : a + n ≤ 281474976710656) (hmm : ∀ i, i < m ↔ pl a i < a + n) (hm2 : m ≤ 2) (hX : ∀ i, i < m → pg ps (pB a i) = some (X i)) : Calls Tryd.prog 56 #[.pointer (some ⟨b, 0, none⟩), .int .u64 a, .int .i64 n] w fun e w' => e = .returned (.int .u64 (accV ((List.finRange m).flatMap fun x => pBy a n X bt x.1))) ∧ Below w.heap.size w w' := by
  have HH : Hid (Mm w b r ps bt) := h
  have l1 := lt_of_some h.map
  have l2 := lt_of_cell h.cell
  clear h
  refine (callsIn_wide (n := 4)).1 ?_
  refine callsIn_of_wp_marks Tryd.func56 rfl trivial ?_ rfl
  simp only [Tryd.ntmps56, List.size_toArray, List.length_cons, List.length_nil, Nat.reduceAdd, Nat.reduceSub, Array.replicate_succ, Array.replicate_zero, List.push_toArray, List.append_toArray, List.nil_append, List.cons_append]
  gi_wp2_with (refine ⟨trivial, ?_⟩; gi_at_call 70; refine (callsIn_wide.2 (runs29 b a n _)).mono ?_; rintro e w' ⟨rfl, rfl⟩)
  obtain ⟨W0, hW0⟩ : ∃ W0, (((((w.alloc (.cells #[.int .u64 0] 22)).alloc (.cells #[.int .i64 0] 3)).alloc (.cells #[.pointer (some ⟨b, 0, none⟩)] 66)).alloc (.cells #[.int .u64 a] 22)).alloc (.cells #[.int .i64 n] 3)) = W0 := ⟨_, rfl⟩
  have b0 : Boxed W0 w.heap.size 22 (.int .u64 0) := by rw [← hW0]; exact (((((Boxed.new w 22 (.int .u64 0)).alloc _).alloc _).alloc _).alloc _)
  have b1 : Boxed W0 (w.heap.size + 1) 3 (.int .i64 0) := by rw [← hW0]; have := ((((Boxed.new (w.alloc (.cells #[.int .u64 0] 22)) 3 (.int .i64 0)).alloc (.cells #[.pointer (some ⟨b, 0, none⟩)] 66)).alloc (.cells #[.int .u64 a] 22)).alloc (.cells #[.int .i64 n] 3)); simpa using this
  have b2 : Boxed W0 (w.heap.size + 1 + 1) 66 (.pointer (some ⟨b, 0, none⟩)) := by rw [← hW0]; have := (((Boxed.new ((w.alloc (.cells #[.int .u64 0] 22)).alloc (.cells #[.int .i64 0] 3)) 66 (.pointer (some ⟨b, 0, none⟩))).alloc (.cells #[.int .u64 a] 22)).alloc (.cells #[.int .i64 n] 3)); simpa using this
  have b3 : Boxed W0 (w.heap.size + 1 + 1 + 1) 22 (.int .u64 a) := by rw [← hW0]; have := ((Boxed.new (((w.alloc (.cells #[.int .u64 0] 22)).alloc (.cells #[.int .i64 0] 3)).alloc (.cells #[.pointer (some ⟨b, 0, none⟩)] 66)) 22 (.int .u64 a)).alloc (.cells #[.int .i64 n] 3)); simpa using this
  have b4 : Boxed W0 (w.heap.size + 1 + 1 + 1 + 1) 3 (.int .i64 n) := by rw [← hW0]; have := (Boxed.new ((((w.alloc (.cells #[.int .u64 0] 22)).alloc (.cells #[.int .i64 0] 3)).alloc (.cells #[.pointer (some ⟨b, 0, none⟩)] 66)).alloc (.cells #[.int .u64 a] 22)) 3 (.int .i64 n)); simpa using this
  have hs : W0.heap.size = w.heap.size + 5 := by rw [← hW0]; simp
  have hB0 : Below w.heap.size w W0 := by rw [← hW0]; exact (((((Below.refl _ w).alloc (Nat.le_refl _) _).alloc (by simp) _).alloc (by simp; omega) _).alloc (by simp; omega) _).alloc (by simp; omega) _
  rw [hW0]
  clear hW0
  have hM0 := HH.out.below hB0
  refine wpIn_rangeFunc_ownG rfl (by omega) (gf := 84) (lb := #[.pointer (some ⟨w.heap.size + 1 + 1 + 1, 0, none⟩), .pointer (some ⟨w.heap.size + 1 + 1 + 1 + 1, 0, none⟩), .pointer (some ⟨w.heap.size + 1 + 1, 0, none⟩)]) rfl trivial (enters_of Tryd.func84 (by kernel_rfl) rfl)
    (runs_any 3 b r (w.heap.size + 1 + 1 + 1) (w.heap.size + 1 + 1 + 1 + 1) (w.heap.size + 1 + 1) ps a n m X W0 (by omega) hM0.cell hM0.map (by omega) (by omega) (by omega) b3.cell b4.cell b2.cell a0 (by omega) h48 hmm hX (fun i hi => HH.out.caps _ (pg_k (hX i hi)).2))
    (fun h k => h.trans k)
    (fun W l o o' hl ho _ _ => by have := lt_of_some ho; exact Keep.grown (grownBy_putObj' W l o') (by omega) (by omega) (by omega) (by intro e; cases e; omega) (by intro e; cases e; omega) (by intro e; cases e; omega))
    (Below.refl _ _) (fun _ => rfl)
    (fun pre W => (Boxed W w.heap.size 22 (.int .u64 (accV (pre.flatMap fun x => pBy a n X bt x.1))) ∧ Boxed W (w.heap.size + 1) 3 (.int .i64 (8 * ((pre.flatMap fun x => pBy a n X bt x.1).length : Int)))) ∧ W0.heap.size ≤ W.heap.size ∧ Below w.heap.size w W)
    (fun _ _ _ => False)
    (fun s A B row hh hg hr => ⟨⟨hh.1.1.kept hg (by intro e; have := (hr _ e.symm).1; omega), hh.1.2.kept hg (by intro e; have := (hr _ e.symm).1; omega)⟩, Nat.le_trans hh.2.1 hg.size, hh.2.2.grown hg hh.2.2.size (fun k e => by have := (hr k e).1; omega)⟩)
    (fun _ _ _ _ _ hs _ _ => hs)
    ⟨⟨b0, b1⟩, Nat.le_refl _, hB0⟩
    (fun z => { tmps := #[.pointer (some ⟨b, 0, none⟩), .int .u64 a, .int .i64 n, undef, undef, undef, .int .u64 0, .pointer (some ⟨w.heap.size, 0, none⟩), .pointer (some ⟨w.heap.size + 1, 0, none⟩), runV a n X z.1, undef, undef, .pointer (some ⟨b, 0, none⟩), .int .u64 a, .int .i64 n, .func (.func 84) #[] #[.pointer (some ⟨w.heap.size + 1 + 1 + 1, 0, none⟩), .pointer (some ⟨w.heap.size + 1 + 1 + 1 + 1, 0, none⟩), .pointer (some ⟨w.heap.size + 1 + 1, 0, none⟩)], runV a n X z.1, undef, undef, undef, undef, undef, undef, undef, undef, undef, undef, undef, undef, undef, undef, undef, undef], defers := [] }) ?assign ?body ?done ?stop
  case assign =>
    intro l z W K hK
    dsimp only [pieceOf, runV] at hK ⊢
    gi_wp2
    exact hK
  case body =>
    rintro l pre z W ⟨⟨e1, e2⟩, hsz, hB⟩ hlt
    have hpl : (pre.flatMap fun x => pBy a n X bt x.1).length ≤ 8 := by
      rcases pre with _ | ⟨y, _ | ⟨y', r'⟩⟩
      · simp
      · have := (pL_le a0 ((hmm y.1).1 y.2)).1
        simp [pBy_len]; omega
      · simp at hlt; omega
    have hzm := pg_k (hX z.1 z.2)
    have hL4 := (pL_le a0 ((hmm z.1).1 z.2))
    have hL8 : pL a n z.1 ≤ 8 := by omega
    have hbz : ∀ j, j < pL a n z.1 → w.cell? ⟨(X z.1).g, pO a z.1 + j, none⟩ = some (.int .u8 (bt (X z.1).g (pO a z.1 + j))) := fun j hj => HH.out.data _ hzm.2 _ (by omega)
    have hgl : (X z.1).g < w.heap.size := lt_of_cell (HH.out.data _ hzm.2 0 (by omega))
    have hbl : Hid (pBy a n X bt z.1 = (List.range (pL a n z.1)).map fun j => bt (X z.1).g (pO a z.1 + j)) := rfl
    have hsm : ∀ j, 0 ≤ bt (X z.1).g (pO a z.1 + j) ∧ bt (X z.1).g (pO a z.1 + j) < 256 := fun j => HH.out.small _ _
    clear hzm hL4
    dsimp only [runV]
    generalize (X z.1).g = g at *
    generalize (X z.1).c - pO a z.1 = c at *
    generalize pO a z.1 = o at *
    generalize pL a n z.1 = L at *
    obtain ⟨l0, hl0⟩ : ∃ l0, (pre.flatMap fun x => pBy a n X bt x.1) = l0 := ⟨_, rfl⟩
    rw [hl0] at hpl e1 e2
    have HL0 : Hid ((pre.flatMap fun x => pBy a n X bt x.1) = l0) := hl0
    clear hl0
    gi_wp2
    gi_loopw [19] (fun x wr => ∃ j : Nat, j ≤ L ∧ x = .int .i64 j ∧ St w W0 W b r (accV (l0 ++ (List.range j).map fun j => bt g (o + j))) (8 * ((l0.length + j : Nat) : Int)) wr) (fun x _ => L - (intOf x).toNat)
    case atStart => exact ⟨0, Nat.zero_le _, rfl, by simpa using St.start e1 e2 hB⟩
    case round =>
      obtain ⟨j, hj, rfl, hst⟩ := hrel
      have c1' := hst.b1.cell
      have c2' := hst.b2.cell
      have f1' := hst.b1.frozen
      have f2' := hst.b2.frozen
      by_cases hjl : j < L
      · have hc : wr.cell? ⟨g, o + j, none⟩ = some (.int .u8 (bt g (o + j))) := (hst.below.cell (p := ⟨g, o + j, none⟩) hgl).trans (hbz j hjl)
        have HS : Hid (St w W0 W b r (accV (l0 ++ (List.range j).map fun j => bt g (o + j))) (8 * ((l0.length + j : Nat) : Int)) wr) := hst
        have hv : accV (l0 ++ (List.range (j + 1)).map fun j => bt g (o + j)) = orB (accV (l0 ++ (List.range j).map fun j => bt g (o + j))) (l0.length + j) (bt g (o + j)) := by
          have t := accV_snoc (l0 ++ (List.range j).map fun j => bt g (o + j)) (bt g (o + j))
          rw [List.append_assoc] at t
          rw [List.range_succ, List.map_append, List.map_singleton]
          simpa using t
        have hy1 := hsm j
        have hs0 : 8 * ((l0.length + (j + 1) : Nat) : Int) = (8 * ((l0.length + j : Nat) : Int)) + 8 := by omega
        have hsn : (8 * ((l0.length + j : Nat) : Int)).toNat = 8 * (l0.length + j) := by omega
        have hs1 : (8 * ((l0.length + j : Nat) : Int)) ≤ 128 := by omega
        have hs2 : 0 ≤ (8 * ((l0.length + j : Nat) : Int)) := by omega
        generalize accV (l0 ++ (List.range j).map fun j => bt g (o + j)) = v0 at *
        generalize (8 * ((l0.length + j : Nat) : Int)) = s at *
        generalize hyy : bt g (o + j) = y at *
        have hwr : IntKind.u64.wrap y = y := by simp [IntKind.wrap, IntKind.signed, IntKind.bits]; omega
        have HV : Hid (accV (l0 ++ (List.range (j + 1)).map fun j => bt g (o + j)) = bits .or .u64 v0 (IntKind.u64.wrap (y * 2 ^ min s.toNat 64))) := (by rw [hv, hsn]; rfl : accV (l0 ++ (List.range (j + 1)).map fun j => bt g (o + j)) = bits .or .u64 v0 (IntKind.u64.wrap (y * 2 ^ min s.toNat 64)))
        have HSs : Hid (8 * ((l0.length + (j + 1) : Nat) : Int) = s + 8) := hs0
        clear hst hs0 hsn hv hyy
        gi_wp2
        gi_region
        all_goals
          gi_wp2
          go_roundw
          case rel => exact ⟨j + 1, by omega, by go_num, by repeat (first | exact HS.out | refine St.drew ?_ | refine St.set2 (v := s) ?_ HSs.out.symm l1 l2 hs hsz | refine St.set1 (u := v0) ?_ HV.out.symm l1 l2 hs hsz)⟩
          case measure => simp [intOf]; omega
      · obtain rfl : j = L := by omega
        have HR : Hid (St w W0 W b r (accV (l0 ++ (List.range j).map fun j => bt g (o + j))) (8 * ((l0.length + j : Nat) : Int)) wr) := hst
        clear hst c1' c2' f1' f2'
        gi_wp2
        refine ⟨HR.out.keeps, HR.out.keep, ⟨?_, ?_⟩, Nat.le_trans hsz HR.out.keeps.size, HR.out.below⟩
        · rw [List.flatMap_append, HL0.out, List.flatMap_singleton, hbl.out]; exact HR.out.b1
        · rw [List.flatMap_append, HL0.out, List.flatMap_singleton, hbl.out, List.length_append, List.length_map, List.length_range]; exact HR.out.b2
  case done =>
    rintro D ys W hD rfl ⟨⟨e1, e2⟩, hsz, hB⟩ hK
    have e3 := e1.cell
    gi_wp2
    refine ⟨by simp, .inl ⟨_, _, rfl, run_takeDeferred hK, ?_⟩⟩
    exact ⟨_, results_tmp rfl _ _ _, rfl, hB.trans (belowK_b (w := w) (Nat.le_refl _) W D _ _ (by omega) hK rfl rfl)⟩
  case stop =>
    rintro D c pre W _ _ h _
    exact h.elim
end Go.Proofs.YtnmpbihpoefeoaaDoor
