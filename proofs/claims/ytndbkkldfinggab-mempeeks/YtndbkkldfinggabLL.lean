/- Bytes of whatever count and place: Peek and Poke, the program's and the document's, and the walk of MemPeeks. -/
import Derived.Test.YtndbkkldfinggabXX
import Derived.Test.YtndbkkldfinggabYC
import Derived.Laws.CopyOwn
namespace Go.Proofs.Ytndbkkldfinggab
open Go.RowKit Go.Shelf
/-- In how many pages n bytes lie. -/
def pcs (a n : Int) : Nat := if n = 0 then 0 else ((a + n - 1 - bs a) / 4096).toNat + 1
theorem pcs_iff {a n : Int} (a0 : 0 ≤ a) (n0 : 0 ≤ n) (i : Nat) : i < pcs a n ↔ pl a i < a + n := by
  obtain ⟨f0, f1, f2, f3⟩ := bs_facts a0
  unfold pcs pl pB
  generalize bs a = q at *
  split <;> omega
theorem pcs_le {a n : Int} (a0 : 0 ≤ a) (n0 : 0 ≤ n) (n1 : n ≤ 65536) : pcs a n ≤ 17 := by
  obtain ⟨f0, f1, f2, f3⟩ := bs_facts a0
  unfold pcs
  generalize bs a = q at *
  split <;> omega
theorem pl_next {a : Int} (a0 : 0 ≤ a) (i : Nat) : pl a (i + 1) = pB a i + 4096 := by
  obtain ⟨f0, f1, f2, f3⟩ := bs_facts a0
  unfold pl pB
  generalize bs a = q at *
  omega
theorem pl_zero {a : Int} (a0 : 0 ≤ a) : pl a 0 = a := by
  obtain ⟨f0, f1, f2, f3⟩ := bs_facts a0
  unfold pl pB
  simp only [Int.natCast_zero]
  omega
/-- Is a page of n bytes not there? -/
def lackP (ps : List Pgd) (a n : Int) : Bool := (List.range (pcs a n)).any fun i => (pg ps (pB a i)).isNone
def useZ (ps : List Pgd) (a n : Int) : Int := if lackP ps a n then 20 else 0
theorem lackP_yes {ps : List Pgd} {a n : Int} {i : Nat} (hi : i < pcs a n) (h : pg ps (pB a i) = none) : useZ ps a n = 20 := by
  unfold useZ lackP
  rw [if_pos (List.any_eq_true.2 ⟨i, List.mem_range.2 hi, by rw [h]; rfl⟩)]
theorem lackP_no {ps : List Pgd} {a n : Int} (h : ∀ i, i < pcs a n → pg ps (pB a i) ≠ none) : useZ ps a n = 0 := by
  unfold useZ lackP
  rw [if_neg]
  rw [List.any_eq_true]
  rintro ⟨i, hi, hp⟩
  exact h i (List.mem_range.1 hi) (by simpa using hp)
theorem useZ_all {ps : List Pgd} {a n : Int} (h : useZ ps a n = 0) (i : Nat) (hi : i < pcs a n) : pg ps (pB a i) = some (pgX ps a i) := by
  cases hp : pg ps (pB a i) with
  | none => rw [lackP_yes hi hp] at h; cases h
  | some x => unfold pgX; rw [hp]; rfl
theorem useZ_cases (ps : List Pgd) (a n : Int) : useZ ps a n = 0 ∨ useZ ps a n = 20 := by unfold useZ; split <;> simp
theorem and_zero (x : Int) : bits .and .i64 x 0 = 0 := by
  unfold bits
  simp
  decide
set_option maxRecDepth 20000 in
set_option maxHeartbeats 1000000 in
theorem usable_zero (b r : Nat) (ps : List Pgd) (bt : Nat → Nat → Int) (a n : Int) (w : World) (h : Mm w b r ps bt) (a0 : 0 ≤ a) (n0 : 0 ≤ n) (n1 : n ≤ 65536) (h48 : a + n ≤ 281474976710656) (a1 : a < 281474976710656) : Calls Try.prog 42 #[.pointer (some ⟨b, 0, none⟩), .int .u64 a, .int .i64 n, .int .i64 0] w fun e w' => e = .returned (.int .i64 (useZ ps a n)) ∧ Below w.heap.size w w' := by
  have HH : Hid (Mm w b r ps bt) := h
  have HX : Hid (∀ W, Calls Try.prog 44 #[.int .u64 a, .int .u64 n] W fun e w' => e = .returned (.bool false) ∧ w' = W) := fun W => by have t := beyond12 a n (by omega) (by omega) (by omega) (by omega) W; rw [decide_eq_false (by omega)] at t; exact t
  have HY : Hid (∀ i, i < pcs a n → pg ps (pB a i) = none → useZ ps a n = 20) := fun i h1 h2 => lackP_yes h1 h2
  have HN : Hid ((∀ i, i < pcs a n → pg ps (pB a i) ≠ none) → useZ ps a n = 0) := lackP_no
  have HI : Hid (∀ i, i < pcs a n ↔ pl a i < a + n) := pcs_iff a0 n0
  have HP : Hid (∀ i : Nat, pl a i < a + n → ∃ (q : Int) (o : Nat), pB a i = q ∧ pl a i = q + o ∧ o < 4096 ∧ 0 ≤ q ∧ q % 4096 = 0) := fun i hi => by
    obtain ⟨q, o, L, k1, k2, k3, k4, k5, k6, _⟩ := p_facts (n := n) (i := i) a0 hi
    exact ⟨q, o, k1, k2, k4, k5, k6⟩
  have HL : Hid (∀ i : Nat, pl a (i + 1) = pB a i + 4096) := pl_next a0
  have HA : Hid (pl a 0 = a) := pl_zero a0
  have hand := and_zero
  generalize useZ ps a n = res at *
  clear h
  go_enter Try.func42, Try.ntmps42
  go_wp2_with fail
  refine (HX.out _).mono ?_
  rintro e w1 ⟨rfl, e1⟩
  subst e1
  go_wp2_with fail
  go_loopw [9, 10] (fun y x wr => ∃ i : Nat, y = .int .i64 0 ∧ x = .int .u64 (pl a i) ∧ pl a i < a + n + 4096 ∧ (∀ j, j < i → pg ps (pB a j) ≠ none) ∧ Below w1.heap.size w1 wr) (fun _ x _ => (a + n + 4096 - intOf x).toNat)
  case atStart => exact ⟨0, rfl, by rw [HA.out], by rw [HA.out]; omega, fun j hj => by omega, Below.refl _ _⟩
  case round =>
    obtain ⟨i, rfl, rfl, hpl, hno, hbl⟩ := hrel
    have HB : Hid (Below w1.heap.size w1 wr) := hbl
    have HQ : Hid (∀ j, j < i → pg ps (pB a j) ≠ none) := hno
    clear hbl hno
    by_cases hlt : pl a i < a + n
    · obtain ⟨q, o, k1, k2, k3, k4, k5⟩ := HP.out i hlt
      have HK : Hid (pB a i = q ∧ i < pcs a n) := ⟨k1, (HI.out i).2 hlt⟩
      rw [k2] at hlt hpl ⊢
      clear k1 k2
      have HBs : Hid (∀ W1, Calls Try.prog 54 #[.int .u64 (q + o)] W1 fun e w' => e = .returned (.int .u64 q) ∧ w' = W1) := fun W1 => by have t := base36 (q + o) (by omega) (by omega) W1; rw [show q + (o : Int) - (q + o) % 4096 = q by omega] at t; exact t
      rcases hp : pg ps q with _ | x1
      · go_wp2_with fail
        refine (HBs.out _).mono ?_
        rintro e w2 ⟨rfl, e2⟩
        subst e2
        go_wp2_with fail
        refine (page_none (HH.out.below HB.out) hp).mono ?_
        rintro e w3 ⟨rfl, hb3⟩
        have HB3 : Hid (Below w1.heap.size w1 w3) := HB.out.trans (hb3.mono HB.out.size)
        clear hb3
        go_wp2
        go_ret
        exact ⟨ret_int (HY.out i HK.out.2 (by rw [HK.out.1]; exact hp)).symm, HB3.out.alloc HB3.out.size _⟩
      · have HPg : Hid (pg ps q = some x1) := hp
        clear hp
        go_wp2_with fail
        refine (HBs.out _).mono ?_
        rintro e w2 ⟨rfl, e2⟩
        subst e2
        go_wp2_with fail
        refine (page_some (HH.out.below HB.out) HPg.out).mono ?_
        rintro e w3 ⟨rfl, hb3⟩
        have HB3 : Hid (Below w1.heap.size w1 w3) := HB.out.trans (hb3.mono HB.out.size)
        clear hb3
        go_wp2_with ((go_at_call 54; refine (HBs.out _).mono ?_; rintro e w4 ⟨rfl, e4⟩; subst e4))
        go_roundw
        case rel => exact ⟨i + 1, rfl, by rw [HL.out, HK.out.1], by rw [HL.out, HK.out.1]; omega, fun j hj => by rcases (by omega : j < i ∨ j = i) with h | rfl; exact HQ.out j h; rw [HK.out.1, HPg.out]; simp, HB3.out.alloc HB3.out.size _⟩
        case measure => simp [intOf]; omega
    · have HE : Hid (¬ pl a i < a + n) := hlt
      go_wp2
      go_ret
      exact ⟨ret_int (HN.out (fun j hj => HQ.out j (by
        have h1 := (HI.out j).1 hj
        have h2 := HE.out
        rcases Nat.lt_or_ge j i with h | h
        · exact h
        · have h3 := (HI.out i).1 (by omega); omega))).symm, HB.out⟩
section
attribute [local go_sem] Oper.semAt_some
/-- An append of a slice that is there, into a box: what the walk owes. -/
theorem Boxed.appended0 {W w1 : World} {n₀ B : Nat} {t e : TypeId} {size : Nat} {v v' : Value} {k m : Nat} {xs ys : List Value}
    (hv : Boxed W B t v) (hte : t ≠ e) (hrow : W.ownsRow n₀ e size v k xs) (hn₀ : n₀ ≤ W.heap.size) (hB : n₀ ≤ B)
    (hown' : w1.ownsRow n₀ e size v' m ys) (hgrow : W.grownBy w1 v.ownBlock) :
    Boxed w1 B t v ∧ Boxed (w1.setCell ⟨B, 0, none⟩ v') B t v' ∧ (w1.setCell ⟨B, 0, none⟩ v').ownsRow n₀ e size v' m ys ∧ KeepsOthers W (w1.setCell ⟨B, 0, none⟩ v') ∧ Below n₀ W (w1.setCell ⟨B, 0, none⟩ v') := by
  have hv1 : Boxed w1 B t v := hv.kept hgrow (hv.not_row hte hrow)
  refine ⟨hv1, hv1.set v', hown'.kept (grownBy_setCell' w1 B v') (.inr (hv1.not_row hte hown').symm), ?_, ?_⟩
  · refine (KeepsOthers.of_grownBy hgrow fun j o ej hj => ?_).trans (KeepsOthers.setCell _ _ _)
    rcases hrow.2 with ⟨rfl, _⟩ | ⟨g, cap, cur, rfl, _, hgb, _⟩
    · simp [Value.ownBlock] at ej
    · obtain rfl : g = j := by simpa [Value.ownBlock] using ej
      rw [hgb] at hj; cases hj; rfl
  · refine ((Below.refl n₀ W).grown hgrow hn₀ fun j ej => ?_).setCell (p := ⟨B, 0, none⟩) hB v'
    rcases hrow.2 with ⟨rfl, _⟩ | ⟨g, cap, cur, rfl, hb, _, _⟩
    · simp [Value.ownBlock] at ej
    · obtain rfl : g = j := by simpa [Value.ownBlock] using ej
      exact hb
def u8s (l : List Int) : List Value := l.map (Value.int .u8)
theorem pBy_sum {a : Int} {n : Nat} (a0 : 0 ≤ a) {m : Nat} (hmm : ∀ i, i < m ↔ pl a i < a + n) (X : Nat → Pgd) (bt : Nat → Nat → Int) : ∀ (pre : List (Fin m)), (pre.flatMap fun x => pBy a n X bt x.1).length ≤ pre.length * 4096
  | [] => by simp
  | x :: r => by
    have t := pBy_sum a0 hmm X bt r
    have := (pL_le a0 ((hmm x.1).1 x.2)).2
    rw [List.flatMap_cons, List.length_append, pBy_len, List.length_cons]
    omega
set_option maxRecDepth 100000 in
set_option maxHeartbeats 2000000 in
theorem peek_ok (b r : Nat) (ps : List Pgd) (bt : Nat → Nat → Int) (a : Int) (n m : Nat) (X : Nat → Pgd) (w : World) (h : Mm w b r ps bt) (a0 : 0 ≤ a) (n1 : n ≤ 65536) (h48 : a + n ≤ 281474976710656) (a1 : a < 281474976710656) (hu : useZ ps a n = 0) (hmm : ∀ i, i < m ↔ pl a i < a + n) (hm : m ≤ 17) (hX : ∀ i, i < m → pg ps (pB a i) = some (X i)) : Calls Try.prog 20 #[.pointer (some ⟨b, 0, none⟩), .int .u64 a, .int .i64 n] w fun e w' => ∃ v, e = .returned (.tuple #[v, .int .i64 0]) ∧ w'.ownsRow w.heap.size 5 1 v ((List.finRange m).flatMap fun x => pBy a n X bt x.1).length (u8s ((List.finRange m).flatMap fun x => pBy a n X bt x.1)) ∧ Below w.heap.size w w' := by
  obtain ⟨i5, hi5, hy0, hy1, hy2⟩ := info_parts info5
  have AN : Hid (Try.prog.info? 5 = some i5 ∧ i5.zero = some (.int .u8 0) ∧ i5.size = 1 ∧ i5.bytes = 1) := ⟨hi5, hy0, hy1, hy2⟩
  clear hi5 hy0 hy1 hy2
  have HH : Hid (Mm w b r ps bt) := h
  have l1 := lt_of_some h.map
  have l2 := lt_of_cell h.cell
  have HU : Hid (Calls Try.prog 42 #[.pointer (some ⟨b, 0, none⟩), .int .u64 a, .int .i64 n, .int .i64 0] w fun e w' => e = .returned (.int .i64 0) ∧ Below w.heap.size w w') := by
    have t := usable_zero b r ps bt a n w h a0 (by omega) (by omega) h48 a1
    rw [hu] at t
    exact t
  clear h hu
  refine (callsIn_wide (n := 4)).1 ?_
  refine callsIn_of_wp_marks Try.func20 rfl trivial ?_ rfl
  simp only [Try.ntmps20, List.size_toArray, List.length_cons, List.length_nil, Nat.reduceAdd, Nat.reduceSub, Array.replicate_succ, Array.replicate_zero, List.push_toArray, List.append_toArray, List.nil_append, List.cons_append]
  have hn0 : decide ((n : Int) < 0) = false := by simp
  have hn1 : decide (65536 < (n : Int)) = false := by simp; omega
  gi_wp2_with (refine ⟨trivial, ?_⟩; first | (gi_at_call 42; refine (callsIn_wide.2 HU.out).mono ?_; rintro e w1 ⟨rfl, hb1⟩) | (gi_at_call 37; refine (callsIn_wide.2 (runs29 b a n _)).mono ?_; rintro e w' ⟨rfl, rfl⟩))
  obtain ⟨W0, hW0⟩ : ∃ W0, ((((w1.alloc (.cells #[.slice none 0 0] 48)).alloc (.cells #[.pointer (some ⟨b, 0, none⟩)] 26)).alloc (.cells #[.int .u64 a] 23)).alloc (.cells #[.int .i64 n] 3)) = W0 := ⟨_, rfl⟩
  have hs1 : w.heap.size ≤ w1.heap.size := hb1.size
  have b0 : Boxed W0 w1.heap.size 48 (.slice none 0 0) := by rw [← hW0]; exact (((Boxed.new w1 48 (.slice none 0 0)).alloc _).alloc _).alloc _
  have b2 : Boxed W0 (w1.heap.size + 1) 26 (.pointer (some ⟨b, 0, none⟩)) := by rw [← hW0]; have := ((Boxed.new (w1.alloc (.cells #[.slice none 0 0] 48)) 26 (.pointer (some ⟨b, 0, none⟩))).alloc (.cells #[.int .u64 a] 23)).alloc (.cells #[.int .i64 n] 3); simpa using this
  have b3 : Boxed W0 (w1.heap.size + 1 + 1) 23 (.int .u64 a) := by rw [← hW0]; have := ((Boxed.new ((w1.alloc (.cells #[.slice none 0 0] 48)).alloc (.cells #[.pointer (some ⟨b, 0, none⟩)] 26)) 23 (.int .u64 a)).alloc (.cells #[.int .i64 n] 3)); simpa using this
  have b4 : Boxed W0 (w1.heap.size + 1 + 1 + 1) 3 (.int .i64 n) := by rw [← hW0]; have := (Boxed.new (((w1.alloc (.cells #[.slice none 0 0] 48)).alloc (.cells #[.pointer (some ⟨b, 0, none⟩)] 26)).alloc (.cells #[.int .u64 a] 23)) 3 (.int .i64 n)); simpa using this
  have hs : W0.heap.size = w1.heap.size + 4 := by rw [← hW0]; simp
  have hB1 : Below w1.heap.size w1 W0 := by rw [← hW0]; exact ((((Below.refl _ w1).alloc (Nat.le_refl _) _).alloc (by simp) _).alloc (by simp; omega) _).alloc (by simp; omega) _
  have hB0 : Below w.heap.size w W0 := hb1.trans (hB1.mono hs1)
  have hM0 : Mm W0 b r ps bt := HH.out.below hB0
  clear hb1 hB1
  rw [hW0]
  clear hW0
  refine wpIn_rangeFunc_ownG rfl (by omega) (gf := 53) (lb := #[.pointer (some ⟨w1.heap.size + 1 + 1, 0, none⟩), .pointer (some ⟨w1.heap.size + 1 + 1 + 1, 0, none⟩), .pointer (some ⟨w1.heap.size + 1, 0, none⟩)]) rfl trivial (enters_of Try.func53 (by kernel_rfl) rfl)
    (runs_any 3 b r (w1.heap.size + 1 + 1) (w1.heap.size + 1 + 1 + 1) (w1.heap.size + 1) ps a n m X W0 (by omega) hM0.cell hM0.map (by omega) (by omega) (by omega) b3.cell b4.cell b2.cell a0 (by omega) h48 hmm hX (fun i hi => hM0.caps _ (pg_k (hX i hi)).2))
    (fun h k => h.trans k)
    (fun W l o o' hl ho _ _ => by have := lt_of_some ho; exact Keep.grown (grownBy_putObj' W l o') (by omega) (by omega) (by omega) (by intro e; cases e; omega) (by intro e; cases e; omega) (by intro e; cases e; omega))
    (Below.refl _ _) (fun _ => rfl)
    (fun (pre : List (Fin m)) W => ((∃ v, Boxed W w1.heap.size 48 v ∧ W.ownsRow w.heap.size 5 1 v (pre.flatMap fun x => pBy a n X bt x.1).length (u8s (pre.flatMap fun x => pBy a n X bt x.1))) ∧ Boxed W (w1.heap.size + 1) 26 (.pointer (some ⟨b, 0, none⟩))) ∧ W0.heap.size ≤ W.heap.size ∧ Below w.heap.size w W)
    (fun _ _ _ => False)
    (fun s A B row hh hg hr => by
      obtain ⟨⟨⟨v, hv, ho⟩, hvm⟩, hsz, hB⟩ := hh
      refine ⟨⟨⟨v, hv.kept hg (by intro e; have := (hr _ e.symm).1; omega), ?_⟩, hvm.kept hg (by intro e; have := (hr _ e.symm).1; omega)⟩, Nat.le_trans hsz hg.size, hB.grown hg hB.size (fun k e => by have := (hr k e).1; omega)⟩
      refine ho.kept hg ?_
      rcases ho.2 with ⟨rfl, _⟩ | ⟨g, cap, cur, rfl, _, hgb, _⟩
      · exact .inl rfl
      · refine .inr (fun e => ?_)
        obtain ⟨_, o, hoo, hcc⟩ := hr g e.symm
        rw [hgb] at hoo; cases hoo; cases hcc)
    (fun _ _ _ _ _ hs _ _ => hs)
    ⟨⟨⟨_, b0, World.ownsRow_nil _ _ _ _⟩, b2⟩, Nat.le_refl _, hB0⟩
    (fun z => { tmps := #[.pointer (some ⟨b, 0, none⟩), .int .u64 a, .int .i64 n, undef, undef, undef, .slice none 0 0, .int .i64 0, .int .i64 0, .pointer (some ⟨w1.heap.size, 0, none⟩), runV a n X z.1, .int .i64 n, .bool false, .bool false, .int .i64 n, .bool false, .bool false, .pointer (some ⟨b, 0, none⟩), .int .u64 a, .int .i64 n, .int .i64 0, .int .i64 0, .bool false, undef, .pointer (some ⟨b, 0, none⟩), .int .u64 a, .int .i64 n, .func (.func 53) #[] #[.pointer (some ⟨w1.heap.size + 1 + 1, 0, none⟩), .pointer (some ⟨w1.heap.size + 1 + 1 + 1, 0, none⟩), .pointer (some ⟨w1.heap.size + 1, 0, none⟩)], runV a n X z.1, undef, undef, undef, undef], defers := [] }) ?assign ?body ?done ?stop
  case assign =>
    intro l z W K hK
    dsimp only [pieceOf, runV] at hK ⊢
    gi_wp2
    exact hK
  case body =>
    rintro l pre z W ⟨⟨⟨v, hv, hrow⟩, hvm⟩, hsz, hB⟩ hlt
    have hzm := (pg_k (hX z.1 z.2)).2
    have hL4 := (pL_le a0 ((hmm z.1).1 z.2)).2
    have hbl : (List.range (pL a n z.1)).map (fun j => bt (X z.1).g (pO a z.1 + j)) = pBy a n X bt z.1 := rfl
    have hpre := pBy_sum a0 hmm X bt pre
    have hcell : ∀ j, j < pL a n z.1 → W.cell? ⟨(X z.1).g, pO a z.1 + j, none⟩ = some (.int .u8 (bt (X z.1).g (pO a z.1 + j))) := fun j hj => (HH.out.below hB).data _ hzm _ (by omega)
    have hc := hv.cell
    have HC : Hid (∀ (j : Nat) (u : Value), (u8s (pBy a n X bt z.1))[j]? = some u → W.cell? ((⟨(X z.1).g, pO a z.1, none⟩ : Addr).add j) = some u) := by
      intro j u hj
      have hjl : j < pL a n z.1 := by
        have := (List.getElem?_eq_some_iff.1 hj).1
        simpa [u8s, pBy_len] using this
      unfold u8s pBy at hj
      simp [hjl] at hj
      rw [Addr.add_lit, ← hj]
      exact hcell j hjl
    have HPL : Hid ((u8s (pBy a n X bt z.1)).length = pL a n z.1) := (by simp [u8s, pBy_len] : (u8s (pBy a n X bt z.1)).length = pL a n z.1)
    have hLe : pL a n z.1 ≤ 4096 := by omega
    have hLp : 0 < pL a n z.1 := by
      obtain ⟨q, o, L, k1, k2, k3, k4, k5, k6, k7, k8, k9, k10, k11⟩ := p_facts (n := n) (i := z.1) a0 ((hmm z.1).1 z.2)
      omega
    dsimp only [runV]
    generalize (X z.1).g = g at *
    generalize (X z.1).c - pO a z.1 = c at *
    generalize pO a z.1 = o at *
    generalize pL a n z.1 = L at *
    generalize hby : pBy a n X bt z.1 = by_ at *
    obtain ⟨l0, hl0⟩ : ∃ l0, (pre.flatMap fun x => pBy a n X bt x.1) = l0 := ⟨_, rfl⟩
    rw [hl0] at hpre hrow
    have HL0 : Hid ((pre.flatMap fun x => pBy a n X bt x.1) = l0) := hl0
    clear hl0 hcell hbl
    have hs2 := hB.size
    gi_wp2_with (first | (gi_at_builtin; refine wpListIn_append_own _ rfl _ _ 48 rfl w.heap.size 5 i5 (.int .u8 0) 1 1 Try.underlying48 AN.out.1 AN.out.2.1 AN.out.2.2.1 AN.out.2.2.2 rfl (by decide) _ _ _ rfl hrow ⟨g, o, none⟩ L c (u8s by_) rfl (by rw [HPL.out]; omega) HC.out (by intro u hu; obtain ⟨x, _, rfl⟩ := List.mem_map.1 hu; rfl) (by unfold maxLen; omega) (by omega) (by omega) ?_; intro v' w2 hown' hgrow _; obtain ⟨g', cap', rfl⟩ : ∃ g' cap', v' = .slice (some ⟨g', 0, none⟩) (l0.length + L) cap' := (by rcases hown'.2 with ⟨_, h0⟩ | ⟨g', cap', _, e, _⟩; (omega); exact ⟨g', cap', e⟩); obtain ⟨hv1, hv2, hr2, hk2, hb2⟩ := Boxed.appended0 hv (by decide) hrow hs2 hs1 hown' hgrow; have hc1 := hv1.cell; have hf1 := hv1.frozen))
    have hrb : ∀ k, v.ownBlock = some k → w.heap.size ≤ k ∧ k ≠ w1.heap.size + 1 := by
      intro k e
      rcases hrow.2 with ⟨rfl, _⟩ | ⟨gg, cc, cu, rfl, hge, hgb, _⟩
      · cases e
      · cases e
        refine ⟨hge, fun e => ?_⟩
        have e' : gg = w1.heap.size + 1 := e
        rw [e', show W.heap[w1.heap.size + 1]? = _ from hvm] at hgb
        cases hgb
    have hg1 := grownBy_setCell' w2 w1.heap.size (.slice (some ⟨g', 0, none⟩) (l0.length + L) cap')
    have hz2 := hgrow.size
    have hvm2 : Boxed (w2.setCell ⟨w1.heap.size, 0, none⟩ (.slice (some ⟨g', 0, none⟩) (l0.length + L) cap')) (w1.heap.size + 1) 26 (.pointer (some ⟨b, 0, none⟩)) := (hvm.kept hgrow (fun e => (hrb _ e.symm).2 rfl)).kept hg1 (by intro e; have := Option.some.inj e; omega)
    refine ⟨hk2.from _, ?_, ⟨⟨_, hv2, ?_⟩, hvm2⟩, Nat.le_trans hsz hb2.size, hB.trans hb2⟩
    · refine (Keep.grown hgrow (by omega) (by omega) (by omega) (fun e => ?_) (fun e => ?_) (fun e => (hrb _ e.symm).2 rfl)).trans (Keep.grown hg1 (by omega) (by omega) (by omega) (by intro e; have := Option.some.inj e; omega) (by intro e; have := Option.some.inj e; omega) (by intro e; have := Option.some.inj e; omega))
      · have := (hrb _ e.symm).1; omega
      · have := (hrb _ e.symm).1; omega
    · rw [List.flatMap_append, HL0.out, List.flatMap_singleton, hby, List.length_append]
      have e1 : by_.length = L := by have := HPL.out; simpa [u8s] using this
      rw [e1]
      unfold u8s at hr2 ⊢
      rw [List.map_append]
      exact hr2
  case done =>
    rintro D ys W hD hS ⟨⟨⟨v, hv, hrow⟩, hvm⟩, hsz, hB⟩ hK
    subst hS
    have hc := hv.cell
    gi_wp2
    refine ⟨by simp, .inl ⟨_, _, rfl, run_takeDeferred hK, ?_⟩⟩
    exact ⟨_, results_tmp2 rfl _ _ _, v, rfl, ownsRow_putObj hrow _ hK rfl, hB.trans (belowK_b (w := w) (Nat.le_refl _) W D _ _ (by omega) hK rfl rfl)⟩
  case stop =>
    rintro D c pre W _ _ h _
    exact h.elim
end
theorem piece_byts {ps : List Pgd} {bt : Nat → Nat → Int} {a : Int} {n i : Nat} (a0 : 0 ≤ a) (h : pl a i < a + n) : pBy a n (pgX ps a) bt i = byts ps bt (pl a i) (pL a n i) := by
  obtain ⟨q, o, L, k1, k2, k3, k4, k5, k6, k7, k8, k9, k10, k11⟩ := p_facts (n := n) (i := i) a0 h
  unfold pBy byts
  apply List.map_congr_left
  intro j hj
  rw [List.mem_range] at hj
  unfold pgX
  rw [byt_in (q := q) k6 (by omega) (by omega), k1, k3, k2]
  congr 1
  omega
theorem pE_zero {a : Int} {n : Nat} (a0 : 0 ≤ a) : pE a n 0 = a := by
  have := pl_zero a0
  unfold pE
  rw [this]
  omega
theorem pieces_take {ps : List Pgd} {bt : Nat → Nat → Int} {a : Int} {n : Nat} (a0 : 0 ≤ a) : ∀ i, i ≤ pcs a n → (((List.finRange (pcs a n)).take i).flatMap fun x => pBy a n (pgX ps a) bt x.1) = byts ps bt a (pE a n i - a).toNat
  | 0, _ => by rw [pE_zero a0]; simp [byts]
  | i + 1, hi => by
    have h := (pcs_iff (n := n) a0 (by omega) i).1 (by omega)
    have t := pieces_take (ps := ps) (bt := bt) (n := n) a0 i (by omega)
    rw [take_fin _ i (by omega), List.flatMap_append, t, List.flatMap_singleton, piece_byts a0 h]
    obtain ⟨q, o, L, k1, k2, k3, k4, k5, k6, k7, k8, k9, k10, k11⟩ := p_facts (n := n) (i := i) a0 h
    have hlo : a ≤ pl a i := by unfold pl; omega
    rw [k11, k7, k10, k2]
    rw [k2] at hlo
    have e := byts_add ps bt a (q + o - a).toNat (min L (4096 - o))
    rw [show a + ((q + (o : Int) - a).toNat : Int) = q + o by omega] at e
    rw [← e]
    congr 1
    omega
theorem pieces_all {ps : List Pgd} {bt : Nat → Nat → Int} {a : Int} {n : Nat} (a0 : 0 ≤ a) : ((List.finRange (pcs a n)).flatMap fun x => pBy a n (pgX ps a) bt x.1) = byts ps bt a n := by
  have t := pieces_take (ps := ps) (bt := bt) (n := n) a0 (pcs a n) (Nat.le_refl _)
  rw [List.take_of_length_le (by simp)] at t
  rw [t]
  have h := mt (pcs_iff (n := n) a0 (by omega) (pcs a n)).2 (Nat.lt_irrefl _)
  congr 1
  unfold pE
  omega
set_option maxHeartbeats 1000000 in
theorem usable_far2 (v : Value) (a perm : Int) (n : Nat) (w : World) (a0 : 0 ≤ a) (a1 : a < 18446744073709551616) (n1 : n ≤ 65536) (hf : farB a n) : Calls Try.prog 42 #[v, .int .u64 a, .int .i64 n, .int .i64 perm] w fun e w' => e = .returned (.int .i64 1) ∧ Below w.heap.size w w' := by
  have HB : Hid (∀ W, Calls Try.prog 44 #[.int .u64 a, .int .u64 (n : Int)] W fun e w' => e = .returned (.bool true) ∧ w' = W) := fun W => by
    unfold farB at hf
    have t := beyond12 a n a0 a1 (by omega) (by omega) W
    rw [decide_eq_true (by omega)] at t
    exact t
  clear hf
  go_enter Try.func42, Try.ntmps42
  go_wp2_with fail
  refine (HB.out _).mono ?_
  rintro e w1 ⟨rfl, e1⟩
  subst e1
  go_wp2
  go_ret
  exact ⟨rfl, Below.refl _ _⟩
set_option maxHeartbeats 1000000 in
theorem peek_odd (v : Value) (a n : Int) (w : World) (hn : n < 0 ∨ 65536 < n) : Calls Try.prog 20 #[v, .int .u64 a, .int .i64 n] w fun e w' => e = .returned (.tuple #[.slice none 0 0, .int .i64 1]) ∧ w' = w := by
  by_cases h0 : n < 0
  · have h0b : decide (n < 0) = true := by simpa using h0
    go_enter Try.func20, Try.ntmps20
    go_wp2
    go_ret2
    exact ⟨rfl, rfl⟩
  · have h0b : decide (n < 0) = false := by simpa using h0
    have h1 : 65536 < n := by omega
    have h1b : decide (65536 < n) = true := by simpa using h1
    go_enter Try.func20, Try.ntmps20
    go_wp2
    go_ret2
    exact ⟨rfl, rfl⟩
set_option maxHeartbeats 1000000 in
theorem peek_err (v : Value) (a x : Int) (n : Nat) (w : World) (n1 : n ≤ 65536) (hx : ¬ x = 0) (h : Calls Try.prog 42 #[v, .int .u64 a, .int .i64 n, .int .i64 0] w fun e w' => e = .returned (.int .i64 x) ∧ Below w.heap.size w w') : Calls Try.prog 20 #[v, .int .u64 a, .int .i64 n] w fun e w' => e = .returned (.tuple #[.slice none 0 0, .int .i64 x]) ∧ Below w.heap.size w w' := by
  have HU : Hid (Calls Try.prog 42 #[v, .int .u64 a, .int .i64 n, .int .i64 0] w fun e w' => e = .returned (.int .i64 x) ∧ Below w.heap.size w w') := h
  have hn0 : decide ((n : Int) < 0) = false := by simp
  have hn1 : decide (65536 < (n : Int)) = false := by simp; omega
  have hxb : (x != 0) = true := by simpa using hx
  clear h
  go_enter Try.func20, Try.ntmps20
  go_wp2_with fail
  refine HU.out.mono ?_
  rintro e w1 ⟨rfl, hb⟩
  have HB : Hid (Below w.heap.size w w1) := hb
  clear hb
  go_wp2
  go_ret2
  exact ⟨rfl, HB.out⟩
/-- What Peek and Poke tell of any count and place. -/
def pkE (ps : List Pgd) (a n : Int) : Int := if n < 0 ∨ 65536 < n then 1 else if 281474976710656 ≤ a ∨ 281474976710656 - a < n then 1 else useZ ps a n
def pkL (ps : List Pgd) (bt : Nat → Nat → Int) (a n : Int) : List Int := if pkE ps a n = 0 then byts ps bt a n.toNat else []
theorem pkE_odd {ps : List Pgd} {a n : Int} (h : n < 0 ∨ 65536 < n) : pkE ps a n = 1 := by unfold pkE; rw [if_pos h]
theorem pkE_far {ps : List Pgd} {a : Int} {n : Nat} (n1 : n ≤ 65536) (h : farB a n) : pkE ps a n = 1 := by unfold farB at h; unfold pkE; rw [if_neg (by omega), if_pos h]
theorem pkE_in {ps : List Pgd} {a : Int} {n : Nat} (n1 : n ≤ 65536) (h : ¬ farB a n) : pkE ps a n = useZ ps a n := by unfold farB at h; unfold pkE; rw [if_neg (by omega), if_neg h]
theorem pkL_err {ps : List Pgd} {bt : Nat → Nat → Int} {a n : Int} (h : ¬ pkE ps a n = 0) : pkL ps bt a n = [] := by unfold pkL; rw [if_neg h]
theorem pkL_ok {ps : List Pgd} {bt : Nat → Nat → Int} {a : Int} {n : Nat} (h : pkE ps a n = 0) : pkL ps bt a n = byts ps bt a n := by unfold pkL; rw [if_pos h, Int.toNat_natCast]
/-- A slice of new memory that has some bytes. -/
def Bsl (W : World) (B : Nat) (v : Value) (l : List Int) : Prop := W.ownsRow B 5 1 v l.length (u8s l)
theorem Bsl.none (W : World) (B : Nat) : Bsl W B (.slice none 0 0) [] := World.ownsRow_nil _ _ _ _
theorem peek_all (b r : Nat) (ps : List Pgd) (bt : Nat → Nat → Int) (a n : Int) (w : World) (h : Mm w b r ps bt) (a0 : 0 ≤ a) (a1 : a < 18446744073709551616) : Calls Try.prog 20 #[.pointer (some ⟨b, 0, none⟩), .int .u64 a, .int .i64 n] w fun e w' => ∃ v, e = .returned (.tuple #[v, .int .i64 (pkE ps a n)]) ∧ Bsl w' w.heap.size v (pkL ps bt a n) ∧ Below w.heap.size w w' := by
  by_cases hn : n < 0 ∨ 65536 < n
  · rw [pkL_err (by rw [pkE_odd hn]; decide), pkE_odd hn]
    exact (peek_odd _ a n w hn).mono fun e w' ⟨h1, h2⟩ => ⟨_, h1, Bsl.none _ _, h2 ▸ Below.refl _ _⟩
  · obtain ⟨m, rfl⟩ : ∃ m : Nat, n = m := ⟨n.toNat, by omega⟩
    by_cases hf : farB a m
    · rw [pkL_err (by rw [pkE_far (by omega) hf]; decide), pkE_far (by omega) hf]
      exact (peek_err _ a 1 m w (by omega) (by decide) (usable_far2 _ a 0 m w a0 a1 (by omega) hf)).mono fun e w' ⟨h1, h2⟩ => ⟨_, h1, Bsl.none _ _, h2⟩
    · have hin : a + (m : Int) ≤ 281474976710656 ∧ a < 281474976710656 := by unfold farB at hf; omega
      have e := pkE_in (ps := ps) (a := a) (n := m) (by omega) hf
      by_cases hu : useZ ps a m = 0
      · rw [pkL_ok (by rw [e]; exact hu), e, hu]
        refine (peek_ok b r ps bt a m (pcs a m) (pgX ps a) w h a0 (by omega) hin.1 hin.2 hu (pcs_iff a0 (by omega)) (pcs_le a0 (by omega) (by omega)) (useZ_all hu)).mono fun e w' hh => ?_
        obtain ⟨v, h1, h2, h3⟩ := hh
        rw [pieces_all a0] at h2
        exact ⟨v, h1, h2, h3⟩
      · rw [pkL_err (by rw [e]; exact hu), e]
        exact (peek_err _ a _ m w (by omega) hu (usable_zero b r ps bt a m w h a0 (by omega) (by omega) hin.1 hin.2)).mono fun e w' ⟨h1, h2⟩ => ⟨_, h1, Bsl.none _ _, h2⟩
-- the document's own
set_option maxHeartbeats 1000000 in
theorem asked_none (x : Option Addr) (cap : Nat) (a perm : Int) (n : Nat) (w : World) (a0 : 0 ≤ a) (h48 : a + n ≤ 281474976710656) (a1 : a < 281474976710656) (n1 : n ≤ 65536) : Calls Try.prog 32 #[.slice x 0 cap, .int .u64 a, .int .i64 n, .int .i64 perm] w fun e w' => e = .returned (.int .i64 (if n = 0 then 0 else 20)) ∧ w' = w := by
  rcases Nat.eq_zero_or_pos n with rfl | hp
  · go_enter Try.func32, Try.ntmps32
    go_wp2
    go_loopw [9] (fun z wr => z = .int .i64 0 ∧ wr = w) (fun _ _ => 0)
    case atStart => exact ⟨rfl, rfl⟩
    case round =>
      obtain ⟨rfl, rfl⟩ := hrel
      go_wp2
      go_loopw [10] (fun z w' => z = .int .i64 0 ∧ w' = wr) (fun _ _ => 0)
      case atStart => exact ⟨rfl, rfl⟩
      case round =>
        obtain ⟨rfl, rfl⟩ := hrel
        go_wp2
        go_ret
        exact ⟨rfl, rfl⟩
  · rw [if_neg (by omega)]
    go_enter Try.func32, Try.ntmps32
    go_wp2
    go_loopw [9] (fun z wr => z = .int .i64 0 ∧ wr = w) (fun _ _ => 0)
    case atStart => exact ⟨rfl, rfl⟩
    case round =>
      obtain ⟨rfl, rfl⟩ := hrel
      go_wp2_with fail
      refine (find_zero x cap _ _).mono ?_
      rintro e w1 ⟨rfl, e1⟩
      subst e1
      go_wp2
      go_ret
      exact ⟨rfl, rfl⟩
theorem Fr.ask_zero {W : World} {b r len : Nat} {k p : Nat → Int} {Y : Nat → Nat → Int} {base : Nat} {ps : List Pgd} (h : Fr W b r len k p Y base ps) (ha : ∀ i, i < len → k i % 4096 = 0) (a : Int) (n : Nat) (a0 : 0 ≤ a) : askE k p len a n 0 = useZ ps a n := by
  obtain ⟨f0, f1, f2, f3⟩ := bs_facts a0
  have hb : (List.range n).any (bars k p len a 0) = false := any_congr_false (fun j _ => by unfold bars; rw [and_zero]; rfl)
  unfold askE
  rw [hb]
  cases hl : (List.range n).any (lacks k len a) with
  | true =>
    obtain ⟨j, hj, hj2⟩ := List.any_eq_true.1 hl
    have hj := List.mem_range.1 hj
    have t := (h.lacks_iff ha a j).1 hj2
    obtain ⟨i, hi⟩ : ∃ i : Nat, bs (a + j) = bs a + 4096 * (i : Int) := ⟨((bs (a + j) - bs a) / 4096).toNat, by unfold bs at *; omega⟩
    have e : pB a i = bs (a + j) := by unfold pB; exact hi.symm
    have hlt : i < pcs a n := (pcs_iff a0 (by omega) i).2 (by unfold pl; rw [e]; unfold bs; omega)
    rw [lackP_yes hlt (by rw [e]; exact t)]
    rfl
  | false =>
    rw [lackP_no (ps := ps) (a := a) (n := n) (fun i hi hn => ?_)]
    · rfl
    have hp := (pcs_iff a0 (by omega) i).1 hi
    obtain ⟨q, o, L, k1, k2, k3, k4, k5, k6, k7, k8, k9, k10, k11⟩ := p_facts (n := n) (i := i) a0 hp
    have hlo : a ≤ pl a i := by unfold pl; omega
    obtain ⟨j, hj⟩ : ∃ j : Nat, a + (j : Int) = pl a i := ⟨(pl a i - a).toNat, by omega⟩
    have e : bs (a + j) = pB a i := by rw [hj, k1, k2]; unfold bs; omega
    have t := (h.lacks_iff ha a j).2 (by rw [e]; exact hn)
    have := List.any_eq_false.1 hl j (List.mem_range.2 (by omega))
    rw [t] at this
    simp at this
/-- asked, of whatever count. -/
theorem asked_z {W0 w : World} {v : Value} {b r len : Nat} {k p : Nat → Int} {ao : Nat → Option Addr} {bl bc : Nat → Nat} {Y : Nat → Nat → Int} {base : Nat} {ps : List Pgd} (hF : Fr W0 b r len k p Y base ps) (ha : ∀ i, i < len → k i % 4096 = 0) (h : PgArg w v len k p ao bl bc Y) (hlen : len ≤ 4096) (a : Int) (n : Nat) (a0 : 0 ≤ a) (n1 : n ≤ 65536) (h48 : a + n ≤ 281474976710656) (a1 : a < 281474976710656) : Calls Try.prog 32 #[v, .int .u64 a, .int .i64 n, .int .i64 0] w fun e w' => e = .returned (.int .i64 (useZ ps a n)) ∧ w' = w := by
  obtain ⟨⟨x, cap, rfl, _, hs⟩, _⟩ := h
  rw [← hF.ask_zero ha a n a0]
  rcases Nat.eq_zero_or_pos len with rfl | h0
  · have e : askE k p 0 a n 0 = if n = 0 then 0 else 20 := by
      rcases Nat.eq_zero_or_pos n with rfl | hp
      · rfl
      · unfold askE
        rw [if_pos (any_true (j := 0) hp (by simp [lacks, fi])), if_neg (by omega)]
    rw [e]
    exact asked_none x cap a 0 n w a0 h48 a1 n1
  · obtain ⟨lb, lo, rfl, hS⟩ := hs h0
    exact asked32 lb lo len cap k p ao bl bc Y a 0 n w hS a0 h48 a1 (by omega) n1
set_option maxHeartbeats 1000000 in
theorem rpeek_one (v : Value) (a n : Int) (w : World) (a0 : 0 ≤ a) (hn : (n < 0 ∨ 65536 < n) ∨ farB a n) (_a1 : a < 18446744073709551616) : Calls Try.prog 21 #[v, .int .u64 a, .int .i64 n] w fun e w' => e = .returned (.tuple #[.slice none 0 0, .int .i64 1]) ∧ w' = w := by
  unfold farB at hn
  by_cases h0 : n < 0
  · have h0b : decide (n < 0) = true := by simpa using h0
    clear hn
    go_enter Try.func21, Try.ntmps21
    go_wp2
    go_ret2
    exact ⟨rfl, rfl⟩
  · have h0b : decide (n < 0) = false := by simpa using h0
    by_cases h1 : 65536 < n
    · have h1b : decide (65536 < n) = true := by simpa using h1
      clear hn
      go_enter Try.func21, Try.ntmps21
      go_wp2
      go_ret2
      exact ⟨rfl, rfl⟩
    · have h1b : decide (65536 < n) = false := by simpa using h1
      by_cases h2 : 281474976710656 ≤ a
      · have h2b : decide (281474976710656 ≤ a) = true := by simpa using h2
        clear hn
        go_enter Try.func21, Try.ntmps21
        go_wp2
        go_ret2
        exact ⟨rfl, rfl⟩
      · have h2b : decide (281474976710656 ≤ a) = false := by simpa using h2
        have h3 : 281474976710656 - a < n := by omega
        have h3b : decide (281474976710656 - a < n) = true := by simpa using h3
        clear hn
        go_enter Try.func21, Try.ntmps21
        go_wp2
        go_ret2
        exact ⟨rfl, rfl⟩
set_option maxHeartbeats 1000000 in
theorem rpeek_err (v : Value) (a x : Int) (n : Nat) (w : World) (a0 : 0 ≤ a) (n1 : n ≤ 65536) (hf : ¬ farB a n) (hx : ¬ x = 0) (h : Calls Try.prog 32 #[v, .int .u64 a, .int .i64 n, .int .i64 0] w fun e w' => e = .returned (.int .i64 x) ∧ w' = w) : Calls Try.prog 21 #[v, .int .u64 a, .int .i64 n] w fun e w' => e = .returned (.tuple #[.slice none 0 0, .int .i64 x]) ∧ w' = w := by
  unfold farB at hf
  have HU : Hid (Calls Try.prog 32 #[v, .int .u64 a, .int .i64 n, .int .i64 0] w fun e w' => e = .returned (.int .i64 x) ∧ w' = w) := h
  have h0b : decide ((n : Int) < 0) = false := by simp
  have h1b : decide (65536 < (n : Int)) = false := by simp; omega
  have h2b : decide (281474976710656 ≤ a) = false := by simp; omega
  have h3b : decide (281474976710656 - a < (n : Int)) = false := by simp; omega
  have hxb : (x != 0) = true := by simpa using hx
  clear h
  go_enter Try.func21, Try.ntmps21
  go_wp2_with fail
  refine HU.out.mono ?_
  rintro e w1 ⟨rfl, e1⟩
  subst e1
  go_wp2
  go_ret2
  exact ⟨rfl, rfl⟩
/-- The loop's relation. -/
def Pkr (w : World) (y : Nat → Int) (n : Nat) (x z : Value) (wr : World) : Prop := ∃ i : Nat, i ≤ n ∧ z = .int .i64 i ∧ wr.ownsRow w.heap.size 5 1 x i (rowOf y i) ∧ Below w.heap.size w wr
set_option maxRecDepth 20000 in
set_option maxHeartbeats 2000000 in
theorem rpeek_ok (v : Value) (a : Int) (n : Nat) (y : Nat → Int) (w : World) (a0 : 0 ≤ a) (n1 : n ≤ 65536) (hf : ¬ farB a n) (h : Calls Try.prog 32 #[v, .int .u64 a, .int .i64 n, .int .i64 0] w fun e w' => e = .returned (.int .i64 0) ∧ w' = w)
    (hb : ∀ j : Nat, j < n → ∀ W, Below w.heap.size w W → Calls Try.prog 43 #[v, .int .u64 (a + (j : Int))] W fun e w' => e = .returned (.int .u8 (y j)) ∧ Below W.heap.size W w') : Calls Try.prog 21 #[v, .int .u64 a, .int .i64 n] w fun e w' => ∃ v', e = .returned (.tuple #[v', .int .i64 0]) ∧ w'.ownsRow w.heap.size 5 1 v' n (rowOf y n) ∧ Below w.heap.size w w' := by
  obtain ⟨i5, hi5, hy0, hy1, hy2⟩ := info_parts info5
  have AN : Hid (Try.prog.info? 5 = some i5 ∧ i5.zero = some (.int .u8 0) ∧ i5.size = 1 ∧ i5.bytes = 1) := ⟨hi5, hy0, hy1, hy2⟩
  unfold farB at hf
  have HU : Hid (Calls Try.prog 32 #[v, .int .u64 a, .int .i64 n, .int .i64 0] w fun e w' => e = .returned (.int .i64 0) ∧ w' = w) := h
  have HBy : Hid (∀ j : Nat, j < n → ∀ W, Below w.heap.size w W → Calls Try.prog 43 #[v, .int .u64 (a + (j : Int))] W fun e w' => e = .returned (.int .u8 (y j)) ∧ Below W.heap.size W w') := hb
  have h0b : decide ((n : Int) < 0) = false := by simp
  have h1b : decide (65536 < (n : Int)) = false := by simp; omega
  have h2b : decide (281474976710656 ≤ a) = false := by simp; omega
  have h3b : decide (281474976710656 - a < (n : Int)) = false := by simp; omega
  have h4 : a + (n : Int) ≤ 281474976710656 := by omega
  clear h hb hi5 hy0 hy1 hy2
  have HR0 : Hid (Pkr w y n (.slice none 0 0) (.int .i64 0) w) := (⟨0, Nat.zero_le _, rfl, World.ownsRow_nil _ _ _ _, Below.refl _ _⟩ : Pkr w y n (.slice none 0 0) (.int .i64 0) w)
  go_enter Try.func21, Try.ntmps21
  go_wp2_with fail
  refine HU.out.mono ?_
  rintro e w1 ⟨rfl, e1⟩
  have e1' := e1.symm
  subst e1'
  go_wp2_with fail
  go_loopw [9, 10] (fun x z wr => Pkr w y n x z wr) (fun _ z _ => n - (intOf z).toNat)
  case atStart => exact HR0.out
  case round =>
    obtain ⟨i, hin, rfl, ho, hbw⟩ := hrel
    obtain ⟨x, hx⟩ : ∃ x, x = u9 := ⟨_, rfl⟩
    subst hx
    have HO : Hid (wr.ownsRow w.heap.size 5 1 x i (rowOf y i)) := ho
    have HB : Hid (Below w.heap.size w wr) := hbw
    clear ho hbw
    by_cases hlt : i < n
    · have HC : Hid (Calls Try.prog 43 #[v, .int .u64 (a + (i : Int))] wr fun e w' => e = .returned (.int .u8 (y i)) ∧ Below wr.heap.size wr w') := HBy.out i hlt wr HB.out
      go_wp2_with fail
      refine HC.out.mono ?_
      rintro e w2 ⟨rfl, hb2⟩
      have HO2 : Hid (w2.ownsRow w.heap.size 5 1 x i (rowOf y i)) := HO.out.kept (grown_of_below hb2) (by rcases HO.out.2 with ⟨rfl, _⟩ | ⟨g, cap, cur, rfl, _⟩ <;> simp [Value.ownBlock])
      have HB2 : Hid (Below w.heap.size w w2) := HB.out.trans (hb2.mono HB.out.size)
      have hs2 := HB2.out.size
      clear hb2 HO HB HC
      go_wp2_with (at_builtin; refine wpList_append_own _ rfl _ _ 48 rfl w.heap.size 5 i5 (.int .u8 0) 1 1 Try.underlying48 AN.out.1 AN.out.2.1 AN.out.2.2.1 AN.out.2.2.2 rfl (by decide) _ _ _ rfl (HO2.out.alloc _) ⟨w2.heap.size, 0, none⟩ 1 1 [.int .u8 (y i)] rfl (by rfl) (by intro j q hj; exact one_row hj) (by intro q hq; simp at hq; subst hq; rfl) (by unfold maxLen; omega) (by omega) (by simp; omega) ?_)
      intro v' w3 hown hgrow hnil
      have HR3 : Hid (Pkr w y n v' (.int .i64 ((i : Int) + 1)) w3) := by
        refine (⟨i + 1, by omega, by go_num, ?_, ?_⟩ : Pkr w y n v' (.int .i64 ((i : Int) + 1)) w3)
        · have e : rowOf y (i + 1) = rowOf y i ++ [.int .u8 (y i)] := by simp [rowOf, List.range_succ]
          rw [e]; exact hown
        · refine (HB2.out.alloc HB2.out.size _).grown hgrow (by simp; omega) (fun k hk => ?_)
          rcases HO2.out.2 with ⟨rfl, _⟩ | ⟨g, cap, cur, rfl, hg, _⟩
          · cases hk
          · cases hk; exact hg
      clear hown hgrow hnil HO2 HB2
      go_wp2
      go_roundw
      case rel => exact HR3.out
      case measure => simp [intOf]; omega
    · obtain rfl : i = n := by omega
      go_wp2
      go_ret2
      exact ⟨x, rfl, HO.out, HB.out⟩
theorem use_z {ps : List Pgd} {a : Int} {n : Nat} (a0 : 0 ≤ a) (hu : useZ ps a n = 0) (j : Nat) (hj : j < n) : pg ps (bs (a + j)) ≠ none := by
  obtain ⟨f0, f1, f2, f3⟩ := bs_facts a0
  obtain ⟨i, hi⟩ : ∃ i : Nat, bs (a + j) = bs a + 4096 * (i : Int) := ⟨((bs (a + j) - bs a) / 4096).toNat, by unfold bs at *; omega⟩
  have e : pB a i = bs (a + j) := by unfold pB; exact hi.symm
  have hlt : i < pcs a n := (pcs_iff a0 (by omega) i).2 (by unfold pl; rw [e]; unfold bs; omega)
  rw [← e, useZ_all hu i hlt]
  simp
theorem rpeek_all {W0 w : World} {v : Value} {b r len : Nat} {k p : Nat → Int} {ao : Nat → Option Addr} {bl bc : Nat → Nat} {Y : Nat → Nat → Int} {base : Nat} {ps : List Pgd} (hF : Fr W0 b r len k p Y base ps) (ha : ∀ i, i < len → k i % 4096 = 0) (hbl : ∀ i, i < len → bl i = 4096) (hY : ∀ i j, 0 ≤ Y i j ∧ Y i j < 256) (h : PgArg w v len k p ao bl bc Y) (hlen : len ≤ 4096) (a n : Int) (a0 : 0 ≤ a) (a1 : a < 18446744073709551616) :
    Calls Try.prog 21 #[v, .int .u64 a, .int .i64 n] w fun e w' => ∃ v', e = .returned (.tuple #[v', .int .i64 (pkE ps a n)]) ∧ Bsl w' w.heap.size v' (pkL ps (btOf W0) a n) ∧ Below w.heap.size w w' := by
  by_cases hn : n < 0 ∨ 65536 < n
  · rw [pkL_err (by rw [pkE_odd hn]; decide), pkE_odd hn]
    exact (rpeek_one v a n w a0 (.inl hn) a1).mono fun e w' ⟨h1, h2⟩ => ⟨_, h1, Bsl.none _ _, h2 ▸ Below.refl _ _⟩
  · obtain ⟨m, rfl⟩ : ∃ m : Nat, n = m := ⟨n.toNat, by omega⟩
    by_cases hf : farB a m
    · rw [pkL_err (by rw [pkE_far (by omega) hf]; decide), pkE_far (by omega) hf]
      exact (rpeek_one v a m w a0 (.inr hf) a1).mono fun e w' ⟨h1, h2⟩ => ⟨_, h1, Bsl.none _ _, h2 ▸ Below.refl _ _⟩
    · have hin : a + (m : Int) ≤ 281474976710656 ∧ a < 281474976710656 := by unfold farB at hf; omega
      have e := pkE_in (ps := ps) (a := a) (n := m) (by omega) hf
      have hA := asked_z hF ha h hlen a m a0 (by omega) hin.1 hin.2
      have hl := hF.len
      by_cases hu : useZ ps a m = 0
      · rw [pkL_ok (by rw [e]; exact hu), e, hu]
        rw [hu] at hA
        refine (rpeek_ok v a m (fun j => byt ps (btOf W0) (a + (j : Int))) w a0 (by omega) hf hA (fun j hj W hb => ?_)).mono fun e w' hh => ?_
        · obtain ⟨x, hx⟩ := Option.ne_none_iff_exists'.1 (use_z a0 hu j hj)
          obtain ⟨t, ht, hxt, hk⟩ := hF.pg_idx hx
          have hfi := hF.fi_some ha (x := a + j) (t := t) (by omega) hk
          obtain ⟨⟨xa, cap, rfl, _, hs⟩, _⟩ := h.below hb
          obtain ⟨lb, lo, rfl, hS⟩ := hs (by omega)
          have f := bs_facts (a := a + j) (by omega)
          have tt := byteAt43 lb lo len cap k p ao bl bc Y (a + j) t W hS (by omega) (by omega) (by omega) (by omega) hfi (hbl t (by omega)) (by omega) (by omega)
          have ey : byt ps (btOf W0) (a + (j : Int)) = Y t (a + (j : Int) - k t).toNat := by
            unfold byt
            rw [hx, hk, ← hxt]
            exact btOf_at ((hF.data t _ (List.getElem?_eq_getElem ht)).2 _ (by omega)) (hY _ _)
          rw [ey]
          exact tt
        · obtain ⟨v', h1, h2, h3⟩ := hh
          refine ⟨v', h1, ?_, h3⟩
          unfold Bsl
          rw [byts_len]
          have e2 : u8s (byts ps (btOf W0) a m) = rowOf (fun j => byt ps (btOf W0) (a + (j : Int))) m := by simp [u8s, byts, rowOf]
          rw [e2]
          exact h2
      · rw [pkL_err (by rw [e]; exact hu), e]
        exact (rpeek_err v a _ m w a0 (by omega) hf hu hA).mono fun e w' ⟨h1, h2⟩ => ⟨_, h1, Bsl.none _ _, h2 ▸ Below.refl _ _⟩
theorem grown_setRow (W : World) (g : Nat) (cs : Array Value) : W.grownBy (W.setRow g cs) (some g) :=
  ⟨rfl, rfl, rfl, by simp [World.setRow], fun k _ hk => setRow_other W g k cs (fun e => hk (by rw [e]))⟩
/-- Some bytes laid over a block's. -/
def spB (bt : Nat → Nat → Int) (g o K : Nat) (f : Nat → Int) : Nat → Nat → Int := fun g' j => if g' = g ∧ o ≤ j ∧ j < o + K then f (j - o) else bt g' j
theorem row_over {cur : Array Value} {o K : Nat} {f : Nat → Int} (h : o + K ≤ cur.size) (j : Nat) : (cur.toList.take o ++ rowOf f K ++ cur.toList.drop (o + K)).toArray[j]? = if o ≤ j ∧ j < o + K then some (.int .u8 (f (j - o))) else cur[j]? := by
  have hl : (cur.toList.take o).length = o := by simp; omega
  have hr : (rowOf f K).length = K := by simp [rowOf]
  rw [List.getElem?_toArray, List.append_assoc]
  by_cases h1 : j < o
  · rw [List.getElem?_append_left (by omega), List.getElem?_take_of_lt h1, if_neg (by omega)]
    simp
  · rw [List.getElem?_append_right (by omega), hl]
    by_cases h2 : j < o + K
    · rw [List.getElem?_append_left (by omega), rowOf_at (by omega), if_pos (by omega)]
    · rw [List.getElem?_append_right (by omega), hr, if_neg (by omega), List.getElem?_drop]
      rw [show o + K + (j - o - K) = j by omega]
      simp
theorem Mo.over {W : World} {b r : Nat} {ps : List Pgd} {bt : Nat → Nat → Int} (h : Mo W b r ps bt) {x : Pgd} (hx : x ∈ ps) {cur : Array Value} (hc : W.heap[x.g]? = some (.cells cur 5 (0, 0))) {o K : Nat} {f : Nat → Int} (hf : ∀ j, 0 ≤ f j ∧ f j < 256) (ho : o + K ≤ 4096) : Mo (W.setRow x.g (cur.toList.take o ++ rowOf f K ++ cur.toList.drop (o + K)).toArray) b r ps (spB bt x.g o K f) := by
  obtain ⟨n1, n2, n3⟩ := h.ne hx
  have hsz : 4096 ≤ cur.size := by
    have t := h.mm.data x hx 4095 (by omega)
    simp only [World.cell?, hc] at t
    have := (Array.getElem?_eq_some_iff.1 (by simpa using t : cur[4095]? = _)).1
    omega
  have hg := grown_setRow W x.g (cur.toList.take o ++ rowOf f K ++ cur.toList.drop (o + K)).toArray
  have F : ∀ k, k < W.heap.size → k ≠ x.g → (W.setRow x.g (cur.toList.take o ++ rowOf f K ++ cur.toList.drop (o + K)).toArray).heap[k]? = W.heap[k]? := fun k hk hn => hg.block k hk (fun e => hn (by cases e; rfl))
  have hn := setRow_heap W x.g cur (cur.toList.take o ++ rowOf f K ++ cur.toList.drop (o + K)).toArray 5 (0, 0) hc
  have lb := lt_of_cell h.mm.cell
  have lr := lt_of_some h.mm.map
  refine ⟨⟨?_, (F r lr (Ne.symm n2)).trans h.mm.map, fun z hz i hi => ?_, fun g i => ?_, h.mm.caps⟩, fun z hz => ?_, h.apart⟩
  · have t := h.mm.cell; simp only [World.cell?, F b lb (Ne.symm n1)] at t ⊢; exact t
  · have t := h.mm.data z hz i hi
    by_cases e : z.g = x.g
    · rw [e] at t ⊢
      have t' : cur[i]? = some (.int .u8 (bt x.g i)) := by simpa [World.cell?, hc] using t
      have u := row_over (f := f) (o := o) (K := K) (cur := cur) (by omega) i
      have v : (cur.toList.take o ++ rowOf f K ++ cur.toList.drop (o + K)).toArray[i]? = some (.int .u8 (spB bt x.g o K f x.g i)) := by
        rw [u]
        unfold spB
        by_cases q : o ≤ i ∧ i < o + K
        · rw [if_pos q, if_pos ⟨rfl, q⟩]
        · rw [if_neg q, if_neg (fun k => q k.2), t']
      generalize spB bt x.g o K f x.g i = y at *
      simp only [World.cell?, hn]
      simpa using v
    · unfold spB
      rw [if_neg (fun k => e k.1)]
      simp only [World.cell?, F z.g (h.ne hz).2.2 e] at t ⊢; exact t
  · unfold spB; split
    · exact hf _
    · exact h.mm.small g i
  · by_cases e : z.g = x.g
    · rw [e]; exact ⟨_, hn⟩
    · obtain ⟨cu, hcu⟩ := h.own z hz; exact ⟨cu, (F z.g (h.ne hz).2.2 e).trans hcu⟩
/-- The bytes of the pages, d of those that are written there. -/
def PtB (ps : List Pgd) (bt : Nat → Nat → Int) (a : Int) (B : Nat → Int) (d : Nat) (bt' : Nat → Nat → Int) : Prop := ∀ x ∈ ps, ∀ j : Nat, j < 4096 → bt' x.g j = if a ≤ x.k + (j : Int) ∧ x.k + (j : Int) < a + (d : Int) then B (x.k + (j : Int) - a).toNat else bt x.g j
theorem PtB.zero (ps : List Pgd) (bt : Nat → Nat → Int) (a : Int) (B : Nat → Int) : PtB ps bt a B 0 bt := fun x _ j _ => by rw [if_neg (by omega)]
theorem PtB.step {ps : List Pgd} {bt bt' : Nat → Nat → Int} {a : Int} {B : Nat → Int} {d : Nat} (h : PtB ps bt a B d bt') (hal : ∀ x ∈ ps, x.k % 4096 = 0) (huq : ∀ x ∈ ps, ∀ y ∈ ps, x.k = y.k → x = y) (hap : ∀ x ∈ ps, ∀ y ∈ ps, x.g = y.g → x = y) {x : Pgd} (hx : x ∈ ps) {o L : Nat} (ho : o + L ≤ 4096) (e : x.k + (o : Int) = a + (d : Int)) : PtB ps bt a B (d + L) (spB bt' x.g o L fun t => B (d + t)) := by
  intro y hy j hj
  have hp := h y hy j hj
  unfold spB
  have m1 := hal x hx
  have m2 := hal y hy
  by_cases q : y.g = x.g
  · obtain rfl := hap y hy x hx q
    by_cases q2 : o ≤ j ∧ j < o + L
    · rw [if_pos ⟨rfl, q2⟩, if_pos (by omega)]
      show B (d + (j - o)) = _
      congr 1
      omega
    · rw [if_neg (fun k => q2 k.2), hp]
      by_cases q3 : a ≤ y.k + (j : Int) ∧ y.k + (j : Int) < a + (d : Int)
      · rw [if_pos q3, if_pos (by omega)]
      · rw [if_neg q3, if_neg (by omega)]
  · rw [if_neg (fun k => q k.1), hp]
    have hk : y.k ≠ x.k := fun ek => q (by rw [huq y hy x hx ek])
    by_cases q3 : a ≤ y.k + (j : Int) ∧ y.k + (j : Int) < a + (d : Int)
    · rw [if_pos q3, if_pos (by omega)]
    · rw [if_neg q3, if_neg (by omega)]
/-- How far Poke has come. -/
structure Pst (w W0 : World) (b r : Nat) (ps : List Pgd) (bt : Nat → Nat → Int) (a : Int) (n : Nat) (B : Nat → Int) (bb bo m : Nat) (pre : List (Fin m)) (d : Nat) (sp : Option Addr) (c : Nat) (bt' : Nat → Nat → Int) (W : World) : Prop where
  le : d ≤ n
  box : Boxed W w.heap.size 48 (.slice sp (n - d) c)
  cap : n - d ≤ c
  at_ : d < n → sp = some ⟨bb, bo + d, none⟩
  mo : Mo W b r ps bt'
  seq : pre = (List.finRange m).take pre.length → (d : Int) = pE a n pre.length - a ∧ PtB ps bt a B d bt'
  size : W0.heap.size ≤ W.heap.size
  but : But ps w.heap.size w W
/-- What a round asks for. -/
structure Pgo (w W0 W : World) (b r M : Nat) (ps : List Pgd) (bt : Nat → Nat → Int) (a : Int) (n : Nat) (B : Nat → Int) (bb bo m : Nat) (pre : List (Fin m)) (W' : World) : Prop where
  keeps : KeepsFrom W0.heap.size W W'
  keep : Keep b r M W W'
  st : ∃ d sp c bt', Pst w W0 b r ps bt a n B bb bo m pre d sp c bt' W'
theorem Pst.drew {w W0 : World} {b r : Nat} {ps : List Pgd} {bt : Nat → Nat → Int} {a : Int} {n : Nat} {B : Nat → Int} {bb bo m : Nat} {pre : List (Fin m)} {d : Nat} {sp : Option Addr} {c : Nat} {bt' : Nat → Nat → Int} {W : World} (h : Pst w W0 b r ps bt a n B bb bo m pre d sp c bt' W) : Pst w W0 b r ps bt a n B bb bo m pre d sp c bt' W.drew :=
  ⟨h.le, h.box, h.cap, h.at_, ⟨⟨h.mo.mm.cell, h.mo.mm.map, h.mo.mm.data, h.mo.mm.small, h.mo.mm.caps⟩, h.mo.own, h.mo.apart⟩, h.seq, h.size, ⟨h.but.os, h.but.tape, h.but.output, h.but.size, h.but.block⟩⟩
/-- The variable is written: what the walk owes. -/
theorem Pst.go {w W0 W W2 : World} {b r M : Nat} {ps : List Pgd} {bt : Nat → Nat → Int} {a : Int} {n : Nat} {B : Nat → Int} {bb bo m : Nat} {pre pre' : List (Fin m)} {d d' : Nat} {sp sp' : Option Addr} {c c' : Nat} {bt' bt'' : Nat → Nat → Int} (h : Pst w W0 b r ps bt a n B bb bo m pre d sp c bt' W) (hk2 : KeepsFrom W0.heap.size W W2) (hkp : Keep b r M W W2) (hbox : Boxed W2 w.heap.size 48 (.slice sp (n - d) c)) (hmo : Mo W2 b r ps bt'') (hbut : But ps w.heap.size w W2)
    (lb : b < w.heap.size) (lr : r < w.heap.size) (lg : ∀ x ∈ ps, x.g < w.heap.size) (hm : w.heap.size < M) (hm2 : M < W0.heap.size) (hd : d' ≤ n) (hc : n - d' ≤ c') (ha : d' < n → sp' = some ⟨bb, bo + d', none⟩) (hs : pre' = (List.finRange m).take pre'.length → (d' : Int) = pE a n pre'.length - a ∧ PtB ps bt a B d' bt'') :
    Pgo w W0 W b r M ps bt a n B bb bo m pre' (W2.setCell ⟨w.heap.size, 0, none⟩ (.slice sp' (n - d') c')) := by
  have z := hk2.size
  have z1 := h.size
  have z2 := hbut.size
  have hg := grown_set W2 w.heap.size 0 (.slice sp' (n - d') c')
  refine ⟨hk2.trans (KeepsFrom.of_grownBy hg (fun k e => by have := Option.some.inj e; omega)), hkp.trans (Keep.grown hg (by omega) (by omega) (by omega) (by intro e; have := Option.some.inj e; omega) (by intro e; have := Option.some.inj e; omega) (by intro e; have := Option.some.inj e; omega)), d', sp', c', bt'', hd, hbox.set _, hc, ha, hmo.grown hg (by intro e; have := Option.some.inj e; omega) (by intro e; have := Option.some.inj e; omega) (fun y hy e => by have := lg y hy; have := Option.some.inj e; omega), hs, Nat.le_trans z1 (Nat.le_trans z hg.size), hbut.grown hg (by omega) (fun k e => .inl (by have := Option.some.inj e; omega))⟩
section
attribute [local go_sem] Oper.semAt_some
theorem take_snocL {m : Nat} {pre : List (Fin m)} {x : Fin m} (h : pre ++ [x] = (List.finRange m).take (pre ++ [x]).length) (hlt : pre.length < m) : pre = (List.finRange m).take pre.length ∧ x.1 = pre.length := by
  rw [List.length_append, List.length_singleton, take_fin m _ hlt] at h
  have t := List.append_inj' h rfl
  exact ⟨t.1, by have := (List.cons.inj t.2).1; rw [this]⟩
theorem copy_eq (W : World) (g o L cx bb bs_ ns cs_ K : Nat) (cur : Array Value) (f : Nat → Int) (hg : W.heap[g]? = some (.cells cur 5 (0, 0))) (hK : K = Nat.min ns L) (hsrc : ∀ j, j < K → W.cell? ⟨bb, bs_ + j, none⟩ = some (.int .u8 (f j))) (hfit : o + K ≤ cur.size) :
    (Builtin.copy_ #[48, 48] 3 #[.slice (some ⟨g, o, none⟩) L cx, .slice (some ⟨bb, bs_, none⟩) ns cs_]).run Try.prog W = .ok (.int .i64 (K : Int)) (W.setRow g (cur.toList.take o ++ rowOf f K ++ cur.toList.drop (o + K)).toArray) := by
  have hr : (rowOf f K).length = K := by simp [rowOf]
  have t := run_copy_row Try.prog W 48 48 3 5 g o L cx ⟨bb, bs_, none⟩ ns cs_ cur 5 (rowOf f K) Try.underlying48 (by kernel_rfl) hg (by rw [hr]; exact hK) (fun j v hj => by
    have hjl : j < K := by
      have := (List.getElem?_eq_some_iff.1 hj).1
      rw [hr] at this
      exact this
    rw [rowOf_at hjl] at hj
    cases hj
    rw [Addr.add_lit]
    exact hsrc j hjl) (by rw [hr]; exact hfit) (fun v hv => by obtain ⟨x, _, rfl⟩ := List.mem_map.1 hv; rfl)
  rw [hr] at t
  exact t
theorem copy_no (W : World) (d : Option Addr) (L cx : Nat) (s : Option Addr) (c : Nat) : (Builtin.copy_ #[48, 48] 3 #[.slice d L cx, .slice s 0 c]).run Try.prog W = .ok (.int .i64 0) W := run_copy_none W 48 48 3 5 d s L cx 0 c Try.underlying48 (by kernel_rfl) (by simp)
set_option maxRecDepth 100000 in
set_option maxHeartbeats 4000000 in
theorem poke_ok (b r : Nat) (ps : List Pgd) (bt : Nat → Nat → Int) (a : Int) (n m : Nat) (sp0 : Option Addr) (c0 bb bo : Nat) (B : Nat → Int) (w : World) (h : Mo w b r ps bt) (hal : ∀ x ∈ ps, x.k % 4096 = 0) (huq : ∀ x ∈ ps, ∀ y ∈ ps, x.k = y.k → x = y) (a0 : 0 ≤ a) (n1 : n ≤ 65536) (h48 : a + n ≤ 281474976710656) (a1 : a < 281474976710656) (hu : useZ ps a n = 0) (hmm : ∀ i, i < m ↔ pl a i < a + n) (hX : ∀ i, i < m → pg ps (pB a i) = some (pgX ps a i))
    (hc0 : n ≤ c0) (hsp : 0 < n → sp0 = some ⟨bb, bo, none⟩) (hbb : ∀ x ∈ ps, x.g ≠ bb) (hBc : ∀ j, j < n → w.cell? ⟨bb, bo + j, none⟩ = some (.int .u8 (B j))) (hBs : ∀ j, 0 ≤ B j ∧ B j < 256) :
    Calls Try.prog 22 #[.pointer (some ⟨b, 0, none⟩), .int .u64 a, .slice sp0 n c0] w fun e w' => e = .returned (.int .i64 0) ∧ But ps w.heap.size w w' ∧ ∃ bt', Mo w' b r ps bt' ∧ PtB ps bt a B n bt' := by
  have HH : Hid (Mo w b r ps bt) := h
  have l1 := lt_of_some h.mm.map
  have l2 := lt_of_cell h.mm.cell
  have lg : ∀ x ∈ ps, x.g < w.heap.size := fun x hx => (h.ne hx).2.2
  have HU : Hid (Calls Try.prog 42 #[.pointer (some ⟨b, 0, none⟩), .int .u64 a, .int .i64 n, .int .i64 0] (w.alloc (.cells #[.slice sp0 n c0] 48)) fun e w' => e = .returned (.int .i64 0) ∧ Below (w.heap.size + 1) (w.alloc (.cells #[.slice sp0 n c0] 48)) w') := by
    have t := usable_zero b r ps bt a n (w.alloc (.cells #[.slice sp0 n c0] 48)) (h.mm.below ((Below.refl _ w).alloc (Nat.le_refl _) _)) a0 (by omega) (by omega) h48 a1
    rw [hu] at t
    simp at t
    exact t
  have hn1 : decide (65536 < (n : Int)) = false := by simp; omega
  clear h hu
  refine (callsIn_wide (n := 4)).1 ?_
  refine callsIn_of_wp_marks Try.func22 rfl trivial ?_ rfl
  simp only [Try.ntmps22, List.size_toArray, List.length_cons, List.length_nil, Nat.reduceAdd, Nat.reduceSub, Array.replicate_succ, Array.replicate_zero, List.push_toArray, List.append_toArray, List.nil_append, List.cons_append]
  gi_wp2_with fail
  refine ⟨trivial, ?_⟩
  refine (callsIn_wide.2 HU.out).mono ?_
  rintro e w1 ⟨rfl, hb1⟩
  have hs1 : w.heap.size + 1 ≤ w1.heap.size := by have := hb1.size; simpa using this
  have bv : Boxed w1 w.heap.size 48 (.slice sp0 n c0) := (hb1.block w.heap.size (by omega)).trans (Boxed.new w 48 (.slice sp0 n c0))
  have hcv := bv.cell
  gi_wp2_with (refine ⟨trivial, ?_⟩; first | (gi_at_call 37; refine (callsIn_wide.2 (runs29 b a n _)).mono ?_; rintro e w' ⟨rfl, rfl⟩))
  obtain ⟨W0, hW0⟩ : ∃ W0, (((w1.alloc (.cells #[.pointer (some ⟨b, 0, none⟩)] 26)).alloc (.cells #[.int .u64 a] 23)).alloc (.cells #[.int .i64 n] 3)) = W0 := ⟨_, rfl⟩
  have b0 : Boxed W0 w.heap.size 48 (.slice sp0 n c0) := by rw [← hW0]; exact ((bv.alloc _).alloc _).alloc _
  have b2 : Boxed W0 w1.heap.size 26 (.pointer (some ⟨b, 0, none⟩)) := by rw [← hW0]; exact ((Boxed.new w1 26 (.pointer (some ⟨b, 0, none⟩))).alloc _).alloc _
  have b3 : Boxed W0 (w1.heap.size + 1) 23 (.int .u64 a) := by rw [← hW0]; have := ((Boxed.new (w1.alloc (.cells #[.pointer (some ⟨b, 0, none⟩)] 26)) 23 (.int .u64 a)).alloc (.cells #[.int .i64 n] 3)); simpa using this
  have b4 : Boxed W0 (w1.heap.size + 1 + 1) 3 (.int .i64 n) := by rw [← hW0]; have := (Boxed.new ((w1.alloc (.cells #[.pointer (some ⟨b, 0, none⟩)] 26)).alloc (.cells #[.int .u64 a] 23)) 3 (.int .i64 n)); simpa using this
  have hs : W0.heap.size = w1.heap.size + 3 := by rw [← hW0]; simp
  have hB1 : Below w1.heap.size w1 W0 := by rw [← hW0]; exact (((Below.refl _ w1).alloc (Nat.le_refl _) _).alloc (by simp) _).alloc (by simp; omega) _
  have hB0 : Below w.heap.size w W0 := (((Below.refl _ w).alloc (Nat.le_refl _) (.cells #[.slice sp0 n c0] 48)).trans (hb1.mono (by omega))).trans (hB1.mono (by omega))
  have hM0 : Mo W0 b r ps bt := HH.out.below hB0
  clear hb1 hB1 bv hcv
  rw [hW0]
  clear hW0
  have hst0 : Pst w W0 b r ps bt a n B bb bo m [] 0 sp0 c0 bt W0 := ⟨Nat.zero_le _, b0, hc0, fun h0 => hsp h0, hM0, fun _ => ⟨by rw [List.length_nil, pE_zero a0]; omega, PtB.zero _ _ _ _⟩, Nat.le_refl _, But.of_below hB0⟩
  refine wpIn_rangeFunc_ownG rfl (by omega) (gf := 53) (lb := #[.pointer (some ⟨w1.heap.size + 1, 0, none⟩), .pointer (some ⟨w1.heap.size + 1 + 1, 0, none⟩), .pointer (some ⟨w1.heap.size, 0, none⟩)]) rfl trivial (enters_of Try.func53 (by kernel_rfl) rfl)
    (runs_any 3 b r (w1.heap.size + 1) (w1.heap.size + 1 + 1) w1.heap.size ps a n m (pgX ps a) W0 (by omega) hM0.mm.cell hM0.mm.map (by omega) (by omega) (by omega) b3.cell b4.cell b2.cell a0 (by omega) h48 hmm hX (fun i hi => hM0.mm.caps _ (pg_k (hX i hi)).2))
    (fun h k => h.trans k)
    (fun W l o o' hl ho _ _ => by have := lt_of_some ho; exact Keep.grown (grownBy_putObj' W l o') (by omega) (by omega) (by omega) (by intro e; cases e; omega) (by intro e; cases e; omega) (by intro e; cases e; omega))
    (Below.refl _ _) (fun _ => rfl)
    (fun (pre : List (Fin m)) W => ∃ d sp c bt', Pst w W0 b r ps bt a n B bb bo m pre d sp c bt' W)
    (fun _ _ _ => False)
    (fun s A C row hh hg hr => by
      obtain ⟨d, sp, c, bt', hp⟩ := hh
      exact ⟨d, sp, c, bt', hp.le, hp.box.kept hg (by intro e; have := (hr _ e.symm).1; omega), hp.cap, hp.at_, hp.mo.grown hg (fun e => by have := (hr _ e).1; omega) (fun e => by have := (hr _ e).1; omega) (fun x hx e => by have := (hr _ e).1; have := lg x hx; omega), hp.seq, Nat.le_trans hp.size hg.size, hp.but.grown hg hp.but.size (fun k e => .inl (by have := (hr k e).1; omega))⟩)
    (fun _ _ _ _ _ hs _ _ => hs)
    ⟨0, sp0, c0, bt, hst0⟩
    (fun z => { tmps := #[.pointer (some ⟨b, 0, none⟩), .int .u64 a, .slice sp0 n c0, undef, undef, .pointer (some ⟨w.heap.size, 0, none⟩), .int .i64 0, .int .i64 0, runV a n (pgX ps a) z.1, .slice sp0 n c0, .int .i64 n, .bool false, .pointer (some ⟨b, 0, none⟩), .int .u64 a, .slice sp0 n c0, .int .i64 n, .int .i64 0, .int .i64 0, .bool false, undef, .pointer (some ⟨b, 0, none⟩), .int .u64 a, .slice sp0 n c0, .int .i64 n, .func (.func 53) #[] #[.pointer (some ⟨w1.heap.size + 1, 0, none⟩), .pointer (some ⟨w1.heap.size + 1 + 1, 0, none⟩), .pointer (some ⟨w1.heap.size, 0, none⟩)], runV a n (pgX ps a) z.1, undef, undef, undef, undef, undef], defers := [] }) ?assign ?body ?done ?stop
  case assign =>
    intro l z W K hK
    dsimp only [pieceOf, runV] at hK ⊢
    gi_wp2
    exact hK
  case body =>
    rintro l pre z W ⟨d, sp, c, bt', hp⟩ hlt
    have hzl := (hmm z.1).1 z.2
    obtain ⟨q, o, Lr, k1, k2, k3, k4, k5, k6, k7, k8, k9, k10, k11⟩ := p_facts (n := n) (i := z.1) a0 hzl
    obtain ⟨hxk, hxm⟩ := pg_k (hX z.1 z.2)
    obtain ⟨cur, hcur⟩ := hp.mo.own _ hxm
    have hsz : 4096 ≤ cur.size := by
      have t := hp.mo.mm.data _ hxm 4095 (by omega)
      simp only [World.cell?, hcur] at t
      have := (Array.getElem?_eq_some_iff.1 (by simpa using t : cur[4095]? = _)).1
      omega
    have hxg := lg _ hxm
    have hxb := hbb _ hxm
    have HS : Hid (∀ (d' : Nat) (bt'' : Nat → Nat → Int), (pre = (List.finRange m).take pre.length → z.1 = pre.length → (d' : Int) = pE a n (z.1 + 1) - a ∧ PtB ps bt a B d' bt'') → (pre ++ [z] = (List.finRange m).take (pre ++ [z]).length → ((d' : Nat) : Int) = pE a n (pre ++ [z]).length - a ∧ PtB ps bt a B d' bt'')) := fun d' bt'' hh hseq => by
      obtain ⟨h1, h2⟩ := take_snocL hseq hlt
      have t := hh h1 h2
      rw [List.length_append, List.length_singleton, ← h2]
      exact t
    have kd : KeepsFrom W0.heap.size W W.drew := ⟨(KeepsFrom.refl W0.heap.size W).size, (KeepsFrom.refl W0.heap.size W).same⟩
    have kk : Keep b r w1.heap.size W W.drew := ⟨rfl, rfl, rfl, Nat.le_refl _⟩
    have hpd := hp.drew
    have hc := hp.box.cell
    have hf := hp.box.frozen
    have hw0 := hp.size
    have hle := hp.le
    have hcap := hp.cap
    dsimp only [runV]
    rw [k3, k10]
    obtain ⟨L, hL⟩ : ∃ L : Nat, min Lr (4096 - o) = L := ⟨_, rfl⟩
    rw [hL] at k10 k11 ⊢
    have hL1 : 0 < L := by omega
    have hL2 : o + L ≤ 4096 := by omega
    have hL3 : L ≤ Lr := by omega
    obtain ⟨g, hg⟩ : ∃ g, (pgX ps a z.1).g = g := ⟨_, rfl⟩
    obtain ⟨cx, hcx⟩ : ∃ cx, (pgX ps a z.1).c - o = cx := ⟨_, rfl⟩
    rw [hg, hcx]
    by_cases hdn : d = n
    · have hgo : ∀ (sp' : Option Addr) (c' : Nat), Pgo w W0 W b r w1.heap.size ps bt a n B bb bo m (pre ++ [z]) (W.drew.setCell ⟨w.heap.size, 0, none⟩ (.slice sp' (n - n) c')) := fun sp' c' => by
        refine hp.go kd kk hpd.box hpd.mo hpd.but l2 l1 lg (by omega) (by omega) (Nat.le_refl _) (by omega) (fun h => by omega) (HS.out n bt' (fun h1 h2 => ?_))
        have t := (hp.seq h1).1
        rw [← h2, k7] at t
        omega
      have hcp := copy_no W.drew (some ⟨g, o, none⟩) L cx sp c
      rw [hdn, Nat.sub_self] at hc
      simp only [Nat.sub_self] at hgo
      have HG : Hid (∀ (sp' : Option Addr) (c' : Nat), Pgo w W0 W b r w1.heap.size ps bt a n B bb bo m (pre ++ [z]) (W.drew.setCell ⟨w.heap.size, 0, none⟩ (.slice sp' 0 c'))) := hgo
      clear hgo hp hpd kd kk HS hM0 hst0 HH hcur hX hmm hBc hal huq HU
      by_cases hcz : c = 0
      · subst hcz
        gi_wp2
        gi_region
        all_goals exact ⟨(HG.out _ _).keeps, (HG.out _ _).keep, (HG.out _ _).st⟩
      · gi_wp2
        gi_region
        all_goals exact ⟨(HG.out _ _).keeps, (HG.out _ _).keep, (HG.out _ _).st⟩
    · have hdl : d < n := by omega
      obtain rfl := hp.at_ hdl
      obtain ⟨K, hK⟩ : ∃ K : Nat, K = Nat.min (n - d) L := ⟨_, rfl⟩
      have hK1 : 0 < K := by rw [hK]; simp only [Nat.min_def]; split <;> omega
      have hK2 : K ≤ L := by rw [hK]; exact Nat.min_le_right _ _
      have hK3 : K ≤ n - d := by rw [hK]; exact Nat.min_le_left _ _
      have lbb : bb < w.heap.size := lt_of_cell (hBc 0 (by omega))
      have hbk : W.heap[bb]? = w.heap[bb]? := hp.but.block bb lbb (fun x hx e => hbb x hx e.symm)
      have hsrc : ∀ j, j < K → W.drew.cell? ⟨bb, (bo + d) + j, none⟩ = some (.int .u8 (B (d + j))) := fun j hj => by
        have t := hBc (d + j) (by omega)
        rw [← Nat.add_assoc] at t
        have e : W.drew.heap[bb]? = w.heap[bb]? := hbk
        simp only [World.cell?, e] at t ⊢
        exact t
      have hcur' : W.drew.heap[(pgX ps a z.1).g]? = some (.cells cur 5 (0, 0)) := hcur
      rw [hg] at hcur'
      have hcp := copy_eq W.drew g o L cx bb (bo + d) (n - d) c K cur (fun t => B (d + t)) hcur' hK hsrc (by omega)
      have hgr := grown_setRow W.drew g (cur.toList.take o ++ rowOf (fun t => B (d + t)) K ++ cur.toList.drop (o + K)).toArray
      have hmo2 : Mo (W.drew.setRow g (cur.toList.take o ++ rowOf (fun t => B (d + t)) K ++ cur.toList.drop (o + K)).toArray) b r ps (spB bt' g o K fun t => B (d + t)) := by
        have t := hpd.mo.over hxm (cur := cur) hcur (o := o) (K := K) (f := fun t => B (d + t)) (fun j => hBs _) (by omega)
        rw [hg] at t
        exact t
      obtain ⟨e1, e2, e3⟩ := hp.mo.ne hxm
      rw [hg] at hxg hxb e1 e2 e3
      have hbx2 : Boxed (W.drew.setRow g (cur.toList.take o ++ rowOf (fun t => B (d + t)) K ++ cur.toList.drop (o + K)).toArray) w.heap.size 48 (.slice (some ⟨bb, bo + d, none⟩) (n - d) c) := hpd.box.kept hgr (by intro e; have := Option.some.inj e; omega)
      have hk2 : KeepsFrom W0.heap.size W (W.drew.setRow g (cur.toList.take o ++ rowOf (fun t => B (d + t)) K ++ cur.toList.drop (o + K)).toArray) := kd.trans (KeepsFrom.of_grownBy hgr (fun k e => by have := Option.some.inj e; omega))
      have hkp : Keep b r w1.heap.size W (W.drew.setRow g (cur.toList.take o ++ rowOf (fun t => B (d + t)) K ++ cur.toList.drop (o + K)).toArray) := kk.trans (Keep.grown hgr (by show r < W.heap.size; omega) (by show b < W.heap.size; omega) (by show w1.heap.size < W.heap.size; omega) (by intro e; have := Option.some.inj e; omega) (by intro e; have := Option.some.inj e; omega) (by intro e; have := Option.some.inj e; omega))
      have hbt2 : But ps w.heap.size w (W.drew.setRow g (cur.toList.take o ++ rowOf (fun t => B (d + t)) K ++ cur.toList.drop (o + K)).toArray) := hpd.but.grown hgr (by show w.heap.size ≤ W.heap.size; omega) (fun k e => .inr ⟨_, hxm, by have := Option.some.inj e; rw [hg]; omega⟩)
      have hgo : ∀ (sp' : Option Addr) (c' : Nat), n - (d + K) ≤ c' → (d + K < n → sp' = some ⟨bb, bo + (d + K), none⟩) → Pgo w W0 W b r w1.heap.size ps bt a n B bb bo m (pre ++ [z]) ((W.drew.setRow g (cur.toList.take o ++ rowOf (fun t => B (d + t)) K ++ cur.toList.drop (o + K)).toArray).setCell ⟨w.heap.size, 0, none⟩ (.slice sp' (n - (d + K)) c')) := fun sp' c' h1 h2 => by
        refine hp.go hk2 hkp hbx2 hmo2 hbt2 l2 l1 lg (by omega) (by omega) (by omega) h1 h2 (HS.out (d + K) _ (fun hs1 hs2 => ?_))
        obtain ⟨t1, t2⟩ := hp.seq hs1
        rw [← hs2, k7] at t1
        have hKL : K = L := by rw [hK]; simp only [Nat.min_def]; split <;> omega
        refine ⟨by rw [k11, hKL]; omega, ?_⟩
        rw [hKL]
        have t3 := t2.step hal huq hp.mo.apart hxm (o := o) (L := L) hL2 (by rw [hxk, k1]; omega)
        rw [hg] at t3
        exact t3
      have hc2 := hbx2.cell
      have hf2 := hbx2.frozen
      have HG : Hid (∀ (sp' : Option Addr) (c' : Nat), n - (d + K) ≤ c' → (d + K < n → sp' = some ⟨bb, bo + (d + K), none⟩) → Pgo w W0 W b r w1.heap.size ps bt a n B bb bo m (pre ++ [z]) ((W.drew.setRow g (cur.toList.take o ++ rowOf (fun t => B (d + t)) K ++ cur.toList.drop (o + K)).toArray).setCell ⟨w.heap.size, 0, none⟩ (.slice sp' (n - (d + K)) c'))) := hgo
      generalize W.drew.setRow g (cur.toList.take o ++ rowOf (fun t => B (d + t)) K ++ cur.toList.drop (o + K)).toArray = W2 at *
      obtain ⟨nd, hnd⟩ : ∃ nd : Nat, n - d = nd := ⟨_, rfl⟩
      have HND : Hid (n - (d + K) = nd - K) := (by omega : n - (d + K) = nd - K)
      rw [hnd] at hc hc2 hcp hK3 hcap hK
      clear hgo hp hpd kd kk HS hM0 hst0 HH hcur hX hmm hBc hal huq HU hmo2 hbx2 hk2 hkp hbt2 hsrc hcur' hgr hbk hK hBs lg hbb
      by_cases hcz : c = K
      · have hE : nd = K := by omega
        have PG : Hid (Pgo w W0 W b r w1.heap.size ps bt a n B bb bo m (pre ++ [z]) (W2.setCell ⟨w.heap.size, 0, none⟩ (.slice (some ⟨bb, bo + d, none⟩) 0 0))) := by
          have t := HG.out (some ⟨bb, bo + d, none⟩) 0 (by have := HND.out; omega) (fun h => by have := HND.out; omega)
          rw [HND.out, hE, Nat.sub_self] at t
          exact t
        clear HND hnd HG
        subst hcz
        subst hE
        gi_wp2
        gi_region
        all_goals exact ⟨PG.out.keeps, PG.out.keep, PG.out.st⟩
      · have PG : Hid (Pgo w W0 W b r w1.heap.size ps bt a n B bb bo m (pre ++ [z]) (W2.setCell ⟨w.heap.size, 0, none⟩ (.slice (some ⟨bb, bo + d + K, none⟩) (nd - K) (c - K)))) := by
          have t := HG.out (some ⟨bb, bo + (d + K), none⟩) (c - K) (by have := HND.out; omega) (fun _ => rfl)
          rw [HND.out, ← Nat.add_assoc] at t
          exact t
        clear hnd HND HG
        gi_wp2
        gi_region
        all_goals exact ⟨PG.out.keeps, PG.out.keep, PG.out.st⟩
  case done =>
    rintro D ys W hD hS ⟨d, sp, c, bt', hp⟩ hK
    subst hS
    gi_wp2
    refine ⟨by simp, .inl ⟨_, _, rfl, run_takeDeferred hK, ?_⟩⟩
    have hg := grownBy_putObj' W D (.deferred none)
    have hE : pE a n m = a + n := by
      have := mt (hmm m).2 (Nat.lt_irrefl _)
      unfold pE
      omega
    obtain ⟨e1, e2⟩ := hp.seq (by rw [List.length_finRange, List.take_of_length_le (by simp)])
    rw [List.length_finRange, hE] at e1
    obtain rfl : d = n := by omega
    exact ⟨_, results_tmp rfl _ _ _, rfl, hp.but.grown hg hp.but.size (fun k e => .inl (by have := Option.some.inj e; omega)), bt', hp.mo.grown hg (fun e => by have := Option.some.inj e; omega) (fun e => by have := Option.some.inj e; omega) (fun x hx e => by have := lg x hx; have := Option.some.inj e; omega), e2⟩
  case stop =>
    rintro D c pre W _ _ h _
    exact h.elim
end
/-- Bytes that came in. -/
structure BArg (W : World) (v : Value) (n : Nat) (B : Nat → Int) : Prop where
  shape : ∃ sp c, v = .slice sp n c ∧ n ≤ c ∧ (0 < n → ∃ bb bo, sp = some ⟨bb, bo, none⟩ ∧ ∀ j, j < n → W.cell? ⟨bb, bo + j, none⟩ = some (.int .u8 (B j)))
  by_ : ∀ j, 0 ≤ B j ∧ B j < 256
theorem BArg.below {W W' : World} {v : Value} {n : Nat} {B : Nat → Int} (h : BArg W v n B) (hb : Below W.heap.size W W') : BArg W' v n B := by
  obtain ⟨⟨sp, c, e, hc, hs⟩, hy⟩ := h
  exact ⟨⟨sp, c, e, hc, fun h0 => by obtain ⟨bb, bo, e1, s⟩ := hs h0; exact ⟨bb, bo, e1, fun j hj => (hb.cell (p := ⟨bb, bo + j, none⟩) (lt_of_cell (s j hj))).trans (s j hj)⟩⟩, hy⟩
set_option maxHeartbeats 1000000 in
theorem poke_big (v : Value) (a : Int) (sp : Option Addr) (n c : Nat) (w : World) (hn : 65536 < n) : Calls Try.prog 22 #[v, .int .u64 a, .slice sp n c] w fun e w' => e = .returned (.int .i64 1) ∧ Below w.heap.size w w' := by
  go_enter Try.func22, Try.ntmps22
  go_wp2
  go_ret
  exact ⟨rfl, (Below.refl _ w).alloc (Nat.le_refl _) _⟩
set_option maxHeartbeats 1000000 in
theorem poke_err (v : Value) (a x : Int) (sp : Option Addr) (n c : Nat) (w : World) (hn : n ≤ 65536) (hx : ¬ x = 0) (h : ∀ W, Below w.heap.size w W → Calls Try.prog 42 #[v, .int .u64 a, .int .i64 n, .int .i64 0] W fun e w' => e = .returned (.int .i64 x) ∧ Below W.heap.size W w') : Calls Try.prog 22 #[v, .int .u64 a, .slice sp n c] w fun e w' => e = .returned (.int .i64 x) ∧ Below w.heap.size w w' := by
  have HB : Hid (Below w.heap.size w (w.alloc (.cells #[.slice sp n c] 48))) := (Below.refl _ w).alloc (Nat.le_refl _) _
  have HU : Hid (Calls Try.prog 42 #[v, .int .u64 a, .int .i64 n, .int .i64 0] (w.alloc (.cells #[.slice sp n c] 48)) fun e w' => e = .returned (.int .i64 x) ∧ Below (w.alloc (.cells #[.slice sp n c] 48)).heap.size (w.alloc (.cells #[.slice sp n c] 48)) w') := h _ HB.out
  have hxb : (x != 0) = true := by simpa using hx
  have hn1 : ¬ 65536 < (n : Int) := by omega
  clear h
  go_enter Try.func22, Try.ntmps22
  go_wp2_with fail
  refine HU.out.mono ?_
  rintro e w1 ⟨rfl, hb⟩
  have HB1 : Hid (Below w.heap.size w w1) := HB.out.trans (hb.mono (by simp))
  clear hb
  go_wp2
  go_ret
  exact ⟨rfl, HB1.out⟩
/-- What Poke leaves. -/
def pkA (ps : List Pgd) (bt : Nat → Nat → Int) (a : Int) (n : Nat) (B : Nat → Int) (bt' : Nat → Nat → Int) : Prop := (pkE ps a n = 0 → PtB ps bt a B n bt') ∧ (¬ pkE ps a n = 0 → bt' = bt)
theorem poke_all (b r : Nat) (ps : List Pgd) (bt : Nat → Nat → Int) (a : Int) (vb : Value) (n : Nat) (B : Nat → Int) (wa w : World) (h : Mo w b r ps bt) (hal : ∀ x ∈ ps, x.k % 4096 = 0) (huq : ∀ x ∈ ps, ∀ y ∈ ps, x.k = y.k → x = y) (a0 : 0 ≤ a) (a1 : a < 18446744073709551616) (hA : BArg wa vb n B) (hbw : Below wa.heap.size wa w) (hpg : ∀ x ∈ ps, wa.heap.size ≤ x.g) :
    Calls Try.prog 22 #[.pointer (some ⟨b, 0, none⟩), .int .u64 a, vb] w fun e w' => e = .returned (.int .i64 (pkE ps a n)) ∧ But ps w.heap.size w w' ∧ ∃ bt', Mo w' b r ps bt' ∧ pkA ps bt a n B bt' := by
  have hAw := hA.below hbw
  obtain ⟨⟨sp, c, rfl, hc, hs⟩, hBs⟩ := hA
  have bad : ∀ x : Int, ¬ x = 0 → pkE ps a n = x → (Calls Try.prog 22 #[.pointer (some ⟨b, 0, none⟩), .int .u64 a, .slice sp n c] w fun e w' => e = .returned (.int .i64 x) ∧ Below w.heap.size w w') → Calls Try.prog 22 #[.pointer (some ⟨b, 0, none⟩), .int .u64 a, .slice sp n c] w fun e w' => e = .returned (.int .i64 (pkE ps a n)) ∧ But ps w.heap.size w w' ∧ ∃ bt', Mo w' b r ps bt' ∧ pkA ps bt a n B bt' := fun x hx e hc => hc.mono fun e' w' ⟨h1, h2⟩ => ⟨by rw [h1, e], But.of_below h2, bt, h.below h2, ⟨fun h0 => absurd (e ▸ h0) hx, fun _ => rfl⟩⟩
  by_cases hn : 65536 < n
  · exact bad 1 (by decide) (pkE_odd (.inr (by omega))) (poke_big _ a sp n c w hn)
  · by_cases hf : farB a n
    · exact bad 1 (by decide) (pkE_far (by omega) hf) (poke_err _ a 1 sp n c w (by omega) (by decide) (fun W _ => usable_far2 _ a 0 n W a0 a1 (by omega) hf))
    · have hin : a + (n : Int) ≤ 281474976710656 ∧ a < 281474976710656 := by unfold farB at hf; omega
      have e := pkE_in (ps := ps) (a := a) (n := n) (by omega) hf
      by_cases hu : useZ ps a n = 0
      · obtain ⟨sp', c', e', _, hs'⟩ := hAw.shape
        cases e'
        have key : ∃ bb bo, (0 < n → sp = some ⟨bb, bo, none⟩) ∧ (∀ x ∈ ps, x.g ≠ bb) ∧ ∀ j, j < n → w.cell? ⟨bb, bo + j, none⟩ = some (.int .u8 (B j)) := by
          rcases Nat.eq_zero_or_pos n with h0 | h0
          · obtain ⟨bb, hbb⟩ : ∃ bb : Nat, ∀ x ∈ ps, x.g ≠ bb := ⟨w.heap.size, fun x hx e => by have := (h.ne hx).2.2; omega⟩
            exact ⟨bb, 0, fun h1 => by omega, hbb, fun j hj => by omega⟩
          · obtain ⟨bb, bo, e1, hcs⟩ := hs h0
            obtain ⟨bb', bo', e1', hcs'⟩ := hs' h0
            rw [e1] at e1'
            cases e1'
            have hl := lt_of_cell (hcs 0 h0)
            exact ⟨bb, bo, fun _ => e1, fun x hx e => by have := hpg x hx; omega, hcs'⟩
        obtain ⟨bb, bo, q1, q2, q3⟩ := key
        refine (poke_ok b r ps bt a n (pcs a n) sp c bb bo B w h hal huq a0 (by omega) hin.1 hin.2 hu (pcs_iff a0 (by omega)) (useZ_all hu) hc q1 q2 q3 hBs).mono fun e' w' hh => ?_
        obtain ⟨h1, h2, bt', h3, h4⟩ := hh
        exact ⟨by rw [h1, e, hu], h2, bt', h3, ⟨fun _ => h4, fun hne => absurd (by rw [e]; exact hu) hne⟩⟩
      · exact bad _ hu e (poke_err _ a _ sp n c w (by omega) hu (fun W hb => usable_zero b r ps bt a n W (h.mm.below hb) a0 (by omega) (by omega) hin.1 hin.2))
-- the document's own
set_option maxHeartbeats 1000000 in
theorem rpoke_one (v : Value) (a : Int) (sp : Option Addr) (n c : Nat) (w : World) (a0 : 0 ≤ a) (hn : 65536 < n ∨ farB a n) : Calls Try.prog 23 #[v, .int .u64 a, .slice sp n c] w fun e w' => e = .returned (.tuple #[v, .int .i64 1]) ∧ w' = w := by
  unfold farB at hn
  by_cases h1 : 65536 < n
  · have h1b : decide (65536 < (n : Int)) = true := by simp; omega
    clear hn
    go_enter Try.func23, Try.ntmps23
    go_wp2
    go_ret2
    exact ⟨rfl, rfl⟩
  · have h1b : decide (65536 < (n : Int)) = false := by simp; omega
    by_cases h2 : 281474976710656 ≤ a
    · have h2b : decide (281474976710656 ≤ a) = true := by simpa using h2
      clear hn
      go_enter Try.func23, Try.ntmps23
      go_wp2
      go_ret2
      exact ⟨rfl, rfl⟩
    · have h2b : decide (281474976710656 ≤ a) = false := by simpa using h2
      have h3 : 281474976710656 - a < (n : Int) := by omega
      have h3b : decide (281474976710656 - a < (n : Int)) = true := by simpa using h3
      clear hn
      go_enter Try.func23, Try.ntmps23
      go_wp2
      go_ret2
      exact ⟨rfl, rfl⟩
set_option maxHeartbeats 1000000 in
theorem rpoke_err (v : Value) (a x : Int) (sp : Option Addr) (n c : Nat) (w : World) (a0 : 0 ≤ a) (n1 : n ≤ 65536) (hf : ¬ farB a n) (hx : ¬ x = 0) (h : Calls Try.prog 32 #[v, .int .u64 a, .int .i64 n, .int .i64 0] w fun e w' => e = .returned (.int .i64 x) ∧ w' = w) : Calls Try.prog 23 #[v, .int .u64 a, .slice sp n c] w fun e w' => e = .returned (.tuple #[v, .int .i64 x]) ∧ w' = w := by
  unfold farB at hf
  have HU : Hid (Calls Try.prog 32 #[v, .int .u64 a, .int .i64 n, .int .i64 0] w fun e w' => e = .returned (.int .i64 x) ∧ w' = w) := h
  have h1b : decide (65536 < (n : Int)) = false := by simp; omega
  have h2b : decide (281474976710656 ≤ a) = false := by simp; omega
  have h3b : decide (281474976710656 - a < (n : Int)) = false := by simp; omega
  have hxb : (x != 0) = true := by simpa using hx
  clear h
  go_enter Try.func23, Try.ntmps23
  go_wp2_with fail
  refine HU.out.mono ?_
  rintro e w1 ⟨rfl, e1⟩
  subst e1
  go_wp2
  go_ret2
  exact ⟨rfl, rfl⟩
set_option maxHeartbeats 1000000 in
theorem rpoke_ok (v : Value) (a : Int) (sp : Option Addr) (n c : Nat) (w : World) (R : Value → World → Prop) (a0 : 0 ≤ a) (n1 : n ≤ 65536) (hf : ¬ farB a n) (h : Calls Try.prog 32 #[v, .int .u64 a, .int .i64 n, .int .i64 0] w fun e w' => e = .returned (.int .i64 0) ∧ w' = w) (hw : Calls Try.prog 38 #[v, .int .u64 a, .slice sp n c] w fun e w' => ∃ x, e = .returned x ∧ R x w') : Calls Try.prog 23 #[v, .int .u64 a, .slice sp n c] w fun e w' => ∃ x, e = .returned (.tuple #[x, .int .i64 0]) ∧ R x w' := by
  unfold farB at hf
  have HU : Hid (Calls Try.prog 32 #[v, .int .u64 a, .int .i64 n, .int .i64 0] w fun e w' => e = .returned (.int .i64 0) ∧ w' = w) := h
  have HW : Hid (Calls Try.prog 38 #[v, .int .u64 a, .slice sp n c] w fun e w' => ∃ x, e = .returned x ∧ R x w') := hw
  have h1b : decide (65536 < (n : Int)) = false := by simp; omega
  have h2b : decide (281474976710656 ≤ a) = false := by simp; omega
  have h3b : decide (281474976710656 - a < (n : Int)) = false := by simp; omega
  clear h hw
  go_enter Try.func23, Try.ntmps23
  go_wp2_with fail
  refine HU.out.mono ?_
  rintro e w1 ⟨rfl, e1⟩
  have e1' := e1.symm
  subst e1'
  go_wp2_with fail
  refine HW.out.mono ?_
  rintro e w2 ⟨x, rfl, hx⟩
  have HR : Hid (R x w2) := hx
  clear hx
  go_wp2
  go_ret2
  exact ⟨x, rfl, HR.out⟩
theorem app_none (W : World) (g : Nat) (x : Option Addr) (c : Nat) : (Builtin.append_ #[22, 22] 22 #[.slice (some ⟨g, 0, none⟩) 0 0, .slice x 0 c]).run Try.prog W = .ok (.slice (some ⟨g, 0, none⟩) 0 0) W := by
  cases x <;> kernel_rfl
set_option maxRecDepth 20000 in
set_option maxHeartbeats 1000000 in
/-- Nothing written into no pages. -/
theorem written_none (x : Option Addr) (cap : Nat) (a : Int) (sp : Option Addr) (c : Nat) (w : World) : Calls Try.prog 38 #[.slice x 0 cap, .int .u64 a, .slice sp 0 c] w fun e w' => e = .returned (.slice (some ⟨w.heap.size, 0, none⟩) 0 0) ∧ Below w.heap.size w w' := by
  have HB : Hid (Below w.heap.size w (w.alloc (.cells #[] 62))) := (Below.refl _ w).alloc (Nat.le_refl _) _
  rcases x with _ | x
  · have happ := app_none (w.alloc (.cells #[] 62)) w.heap.size none cap
    go_enter Try.func38, Try.ntmps38
    go_wp2_with fail
    go_loopw [8, 9] (fun y z wr => y = .int .i64 (-1) ∧ z = .int .i64 0 ∧ wr = w.alloc (.cells #[] 62)) (fun _ _ _ => 0)
    case atStart => exact ⟨rfl, rfl, rfl⟩
    case round =>
      obtain ⟨rfl, rfl, rfl⟩ := hrel
      go_wp2
      go_ret
      exact ⟨rfl, HB.out⟩
  · have happ := app_none (w.alloc (.cells #[] 62)) w.heap.size (some x) cap
    go_enter Try.func38, Try.ntmps38
    go_wp2_with fail
    go_loopw [8, 9] (fun y z wr => y = .int .i64 (-1) ∧ z = .int .i64 0 ∧ wr = w.alloc (.cells #[] 62)) (fun _ _ _ => 0)
    case atStart => exact ⟨rfl, rfl, rfl⟩
    case round =>
      obtain ⟨rfl, rfl, rfl⟩ := hrel
      go_wp2
      go_ret
      exact ⟨rfl, HB.out⟩
set_option maxRecDepth 20000 in
set_option maxHeartbeats 1000000 in
/-- Nothing written into some pages. -/
theorem written_zero (lb lo len cap : Nat) (k p : Nat → Int) (ao : Nat → Option Addr) (bl bc : Nat → Nat) (Y : Nat → Nat → Int) (a : Int) (sp : Option Addr) (c : Nat) (w : World) (h : PgSrc w lb lo len k p ao bl bc Y) (hbl : ∀ i, i < len → bl i = 4096) (hlen : len ≤ 65536) (hl0 : 0 < len) :
    Calls Try.prog 38 #[.slice (some ⟨lb, lo, none⟩) len cap, .int .u64 a, .slice sp 0 c] w fun e w' => ∃ la lc g o c, e = .returned (.slice (some ⟨la, 0, none⟩) len lc) ∧ len ≤ lc ∧ Row w' la 0 len k p Y g o c ∧ Below w.heap.size w w' := by
  obtain ⟨i0, hi, hz0, hz1, hz2⟩ := info_parts info62
  have A : Hid (PgSrc w lb lo len k p ao bl bc Y) := h
  have AI : Hid (∀ i, i < len → bl i = 4096) := hbl
  clear h hbl
  go_enter Try.func38, Try.ntmps38
  go_wp2_with (at_builtin; refine wpList_append_own _ rfl _ _ 22 rfl w.heap.size 62 i0 (.agg #[.int .u64 0, .int .i64 0, .slice none 0 0]) 3 40 Try.underlying22 hi hz0 hz1 hz2 rfl (by decide) _ _ _ rfl (World.ownsRow_made w #[] 0 (Nat.le_refl _) (Nat.zero_le _) rfl) ⟨lb, lo, none⟩ len cap (rowS k p ao bl bc len) rfl ?qc1 ?qc2 ?qc3 ?qc4 ?qc5 ?qc6 ?_)
  case qc1 => exact rowS_len _ _ _ _ _ _
  case qc2 =>
    intro j u hj
    have hjn : j < len * 3 := by
      have := (List.getElem?_eq_some_iff.1 hj).1
      rwa [rowS_len] at this
    have hl1 : lb < w.heap.size := lt_of_cell (A.out.c0 0 hl0)
    rw [Addr.add_lit]
    refine (((Below.refl _ w).alloc (Nat.le_refl _) _).cell (p := ⟨lb, lo + j, none⟩) hl1).trans ?_
    obtain ⟨g0, g1, g2⟩ := rowS_get k p ao bl bc len (j / 3) (by omega)
    rcases (by omega : j = j / 3 * 3 ∨ j = j / 3 * 3 + 1 ∨ j = j / 3 * 3 + 2) with e | e | e
    · rw [e] at hj ⊢; rw [g0] at hj; cases hj; exact A.out.c0 (j / 3) (by omega)
    · rw [e] at hj ⊢; rw [g1] at hj; cases hj; exact A.out.c1 (j / 3) (by omega)
    · rw [e] at hj ⊢; rw [g2] at hj; cases hj; exact A.out.c2 (j / 3) (by omega)
  case qc3 => intro u hu; obtain ⟨x, _, hx⟩ := List.mem_flatMap.1 hu; simp at hx; rcases hx with rfl | rfl | rfl <;> rfl
  case qc4 => unfold maxLen; omega
  case qc5 => omega
  case qc6 => simp
  intro v' w1 hown hgrow hnil
  rcases hown.2 with ⟨_, h0⟩ | ⟨la, lc, cur, rfl, hg, hh, hnc, _, hcs, htk⟩
  · omega
  have hB1 : Below w.heap.size w w1 := ((Below.refl _ w).alloc (Nat.le_refl _) _).grown hgrow (by simp) (by intro k hk; simp [Value.ownBlock] at hk; omega)
  have HB1 : Hid (Below w.heap.size w w1) := hB1
  have HW1 : Hid (∃ g o c, Row w1 la 0 len k p Y g o c) := by
    have cell : ∀ j u, j < len * 3 → (rowS k p ao bl bc len)[j]? = some u → w1.cell? ⟨la, 0 + j, none⟩ = some u := by
      intro j u hj hu
      rw [← htk, List.getElem?_take_of_lt hj] at hu
      simp only [World.cell?, hh, Nat.zero_add]
      simpa using hu
    have H : ∀ i, ∃ g : Nat, ∃ o : Nat, i < len → ao i = some ⟨g, o, none⟩ ∧ ∀ j, j < 4096 → w.cell? ⟨g, o + j, none⟩ = some (.int .u8 (Y i j)) := fun i => by
      by_cases hi : i < len
      · obtain ⟨g, o, h1, h2⟩ := A.out.cs i hi (AI.out i hi)
        exact ⟨g, o, fun _ => ⟨h1, h2⟩⟩
      · exact ⟨0, 0, fun h => absurd h hi⟩
    obtain ⟨g, hg'⟩ := Classical.axiomOfChoice H
    obtain ⟨o, ho⟩ := Classical.axiomOfChoice hg'
    refine (⟨g, o, bc, fun i hi => ?_, fun i hi => ?_, fun i hi => ?_, fun i hi j hj => ?_⟩ : ∃ g o c, Row w1 la 0 len k p Y g o c)
    · exact cell _ _ (by omega) (rowS_get k p ao bl bc len i hi).1
    · rw [Nat.add_assoc]; exact cell _ _ (by omega) (rowS_get k p ao bl bc len i hi).2.1
    · rw [Nat.add_assoc]; have t := cell _ _ (by omega) (rowS_get k p ao bl bc len i hi).2.2; rw [(ho i hi).1, AI.out i hi] at t; exact t
    · have t := (ho i hi).2 j hj; exact (hB1.cell (p := ⟨g i, o i + j, none⟩) (lt_of_cell t)).trans t
  clear hown hgrow hnil hB1 hh hcs htk hg
  go_wp2
  go_loopw [8, 9] (fun y z wr => y = .int .i64 (-1) ∧ z = .int .i64 0 ∧ wr = w1) (fun _ _ _ => 0)
  case atStart => exact ⟨rfl, rfl, rfl⟩
  case round =>
    obtain ⟨rfl, rfl, rfl⟩ := hrel
    go_wp2
    go_ret
    obtain ⟨g, o, c, h⟩ := HW1.out
    exact ⟨la, lc, g, o, c, by simp, by omega, h, HB1.out⟩
section
variable {W0 : World} {b r len : Nat} {k p : Nat → Int} {Y : Nat → Nat → Int} {base : Nat} {ps : List Pgd}
theorem Fr.k_injL (h : Fr W0 b r len k p Y base ps) : ∀ t t', t < len → t' < len → k t = k t' → t = t' := by
  have hl := h.len
  have up : ∀ t t', t < t' → t' < len → k t < k t' := fun t t' h1 h2 => by
    have e := (List.pairwise_iff_getElem.1 h.up) t t' (by omega) (by omega) h1
    rw [(h.at_ t _ (List.getElem?_eq_getElem (by omega))).1, (h.at_ t' _ (List.getElem?_eq_getElem (by omega))).1] at e
    exact e
  intro t t' h1 h2 e
  rcases Nat.lt_trichotomy t t' with q | q | q
  · have := up t t' q h2; omega
  · exact q
  · have := up t' t q h1; omega
theorem Fr.placesZ (h : Fr W0 b r len k p Y base ps) (hal : ∀ i, i < len → k i % 4096 = 0) {a : Int} {m : Nat} (a0 : 0 ≤ a) (hu : useZ ps a m = 0) (j : Nat) (hj : j < m) : ∃ t : Nat, t < len ∧ fi k len (a + (j : Int)) = t ∧ k t ≤ a + j ∧ a + j < k t + 4096 := by
  have hp := use_z a0 hu j hj
  cases e : pg ps (bs (a + (j : Int))) with
  | none => exact absurd e hp
  | some x =>
    obtain ⟨t, ht, _, hk⟩ := h.pg_idx e
    have hl := h.len
    refine ⟨t, by omega, h.fi_some hal (by omega) hk, ?_, ?_⟩ <;> rw [hk] <;> unfold bs <;> omega
/-- What the document's Poke leaves. -/
def rpkA (ps : List Pgd) (len : Nat) (k p : Nat → Int) (Y : Nat → Nat → Int) (a : Int) (n : Nat) (B : Nat → Int) (v vr : Value) (w' : World) : Prop := (¬ pkE ps a n = 0 → vr = v) ∧ (pkE ps a n = 0 → ∃ x lc, vr = .slice x len lc ∧ (0 < len → ∃ la g o c, x = some ⟨la, 0, none⟩ ∧ Row w' la 0 len k p (Yw k Y a B n) g o c))
theorem rpoke_all {w : World} {v vb : Value} {ao : Nat → Option Addr} {bl bc : Nat → Nat} {n : Nat} {B : Nat → Int} (hF : Fr W0 b r len k p Y base ps) (ha : ∀ i, i < len → k i % 4096 = 0) (hbl : ∀ i, i < len → bl i = 4096) (h : PgArg w v len k p ao bl bc Y) (hlen : len ≤ 4096) (a : Int) (a0 : 0 ≤ a) (hB : BArg w vb n B) :
    Calls Try.prog 23 #[v, .int .u64 a, vb] w fun e w' => ∃ vr, e = .returned (.tuple #[vr, .int .i64 (pkE ps a n)]) ∧ Below w.heap.size w w' ∧ rpkA ps len k p Y a n B v vr w' := by
  obtain ⟨⟨sp, c, rfl, hc, hs⟩, hBs⟩ := hB
  have bad : ∀ x : Int, ¬ x = 0 → pkE ps a n = x → (Calls Try.prog 23 #[v, .int .u64 a, .slice sp n c] w fun e w' => e = .returned (.tuple #[v, .int .i64 x]) ∧ w' = w) → Calls Try.prog 23 #[v, .int .u64 a, .slice sp n c] w fun e w' => ∃ vr, e = .returned (.tuple #[vr, .int .i64 (pkE ps a n)]) ∧ Below w.heap.size w w' ∧ rpkA ps len k p Y a n B v vr w' := fun x hx e hc => hc.mono fun e' w' ⟨h1, h2⟩ => ⟨v, by rw [h1, e], h2 ▸ Below.refl _ _, ⟨fun _ => rfl, fun h0 => absurd (e ▸ h0) hx⟩⟩
  by_cases hn : 65536 < n
  · exact bad 1 (by decide) (pkE_odd (.inr (by omega))) (rpoke_one v a sp n c w a0 (.inl hn))
  · by_cases hf : farB a n
    · exact bad 1 (by decide) (pkE_far (by omega) hf) (rpoke_one v a sp n c w a0 (.inr hf))
    · have hin : a + (n : Int) ≤ 281474976710656 ∧ a < 281474976710656 := by unfold farB at hf; omega
      have e := pkE_in (ps := ps) (a := a) (n := n) (by omega) hf
      have hA := asked_z hF ha h hlen a n a0 (by omega) hin.1 hin.2
      by_cases hu : useZ ps a n = 0
      · have e0 : pkE ps a n = 0 := by rw [e]; exact hu
        rw [hu] at hA
        rw [e0]
        refine (rpoke_ok v a sp n c w (fun x w' => Below w.heap.size w w' ∧ ∃ x' lc, x = .slice x' len lc ∧ (0 < len → ∃ la g o c, x' = some ⟨la, 0, none⟩ ∧ Row w' la 0 len k p (Yw k Y a B n) g o c)) a0 (by omega) hf hA ?_).mono fun e' w' hh => ?_
        · obtain ⟨⟨x, cap, rfl, _, hsrc⟩, _⟩ := h
          rcases Nat.eq_zero_or_pos n with h0 | h0
          · subst h0
            rcases Nat.eq_zero_or_pos len with hl0 | hl0
            · subst hl0
              exact (written_none x cap a sp c w).mono fun e' w' ⟨h1, h2⟩ => ⟨_, h1, h2, _, _, rfl, fun h => by omega⟩
            · obtain ⟨lb, lo, rfl, hS⟩ := hsrc hl0
              refine (written_zero lb lo len cap k p ao bl bc Y a sp c w hS hbl (by omega) hl0).mono fun e' w' hh => ?_
              obtain ⟨la, lc, g, o, c', h1, _, h2, h3⟩ := hh
              rw [Yw_zero]
              exact ⟨_, h1, h3, _, lc, rfl, fun _ => ⟨la, g, o, c', rfl, h2⟩⟩
          · obtain ⟨t, ht, _⟩ := hF.placesZ ha a0 hu 0 h0
            obtain ⟨lb, lo, rfl, hS⟩ := hsrc (by omega)
            obtain ⟨bb, bo, rfl, hcs⟩ := hs h0
            refine (written38 lb lo len cap k p ao bl bc Y a n bb bo c B w hS hbl a0 hin.1 (by omega) (by omega) (by omega) ha hF.k_injL hcs hBs (hF.placesZ ha a0 hu)).mono fun e' w' hh => ?_
            obtain ⟨la, lc, g, o, c', h1, _, h2, h3⟩ := hh
            exact ⟨_, h1, h3, _, lc, rfl, fun _ => ⟨la, g, o, c', rfl, h2⟩⟩
        · obtain ⟨x, h1, h2, h3⟩ := hh
          exact ⟨x, h1, h2, ⟨fun hne => absurd e0 hne, fun _ => h3⟩⟩
      · exact bad _ hu e (rpoke_err v a _ sp n c w a0 (by omega) hf hu hA)
end
theorem Bsl.below {W W' : World} {B : Nat} {v : Value} {l : List Int} (h : Bsl W B v l) (hb : Below W.heap.size W W') : Bsl W' B v l := by
  refine World.ownsRow.kept h (grown_of_below hb) ?_
  rcases h.2 with ⟨rfl, _⟩ | ⟨g, cap, cur, rfl, _⟩ <;> simp [Value.ownBlock]
theorem Bsl.but {W W' : World} {B : Nat} {v : Value} {l : List Int} {ps : List Pgd} (h : Bsl W B v l) (hb : But ps W.heap.size W W') (hp : ∀ x ∈ ps, x.g < B) : Bsl W' B v l := by
  refine ⟨h.1, ?_⟩
  rcases h.2 with ⟨e, h0⟩ | ⟨g, cap, cur, e, hg, hh, hr⟩
  · exact .inl ⟨e, h0⟩
  · exact .inr ⟨g, cap, cur, e, hg, (hb.block g (lt_of_some hh) (fun x hx e => by have := hp x hx; omega)).trans hh, hr⟩
theorem Bsl.bytes {W : World} {B : Nat} {v : Value} {l : List Int} (h : Bsl W B v l) : ∃ p c, v = .slice p l.length c ∧ Lib.BytesIn W p l.length l := by
  rcases h.2 with ⟨rfl, h0⟩ | ⟨g, cap, cur, rfl, _, hh, hnc, _, hcs, htk⟩
  · exact ⟨Option.none, 0, by rw [h0], fun hp => by omega⟩
  · refine ⟨_, cap, rfl, fun _ => ⟨g, 0, rfl, fun j hj => ?_⟩⟩
    have e : (cur.toList.take (l.length * 1))[j]? = some (.int .u8 (l.getD j 0)) := by
      rw [htk]
      simp [u8s, hj, List.getD]
    rw [List.getElem?_take_of_lt (by omega)] at e
    simp only [World.cell?, hh, Nat.zero_add]
    simpa using e
theorem same_bytes {W : World} {B B' : Nat} {v v' : Value} {l : List Int} (h : Bsl W B v l) (h' : Bsl W B' v' l) : Calls Try.prog 24 #[v, v'] W fun e w' => e = .returned (.bool true) ∧ w' = W := by
  obtain ⟨p, c, rfl, h1⟩ := h.bytes
  obtain ⟨p', c', rfl, h2⟩ := h'.bytes
  exact bytes24 p p' l.length c c' l W rfl h1 h2
/-- What the rest of the law asks for, behind Poke. -/
def after5 (v vb vp vq : Value) (bm : Nat) (a y : Int) (w4 : World) : Prop := Calls Try.prog 23 #[v, .int .u64 a, vb] w4 fun e w5 => ∃ vr, e = .returned (.tuple #[vr, .int .i64 y]) ∧ Below w4.heap.size w4 w5 ∧ (Calls Try.prog 24 #[vp, vq] w5 fun e w' => e = .returned (.bool true) ∧ w' = w5) ∧ Calls Try.prog 15 #[.pointer (some ⟨bm, 0, none⟩), vr] w5 fun e w' => e = .returned (.bool true) ∧ Below w5.heap.size w5 w'
theorem both5 {w w1 : World} {v vb : Value} {b r len n : Nat} {k p : Nat → Int} {ao : Nat → Option Addr} {bl bc : Nat → Nat} {Y : Nat → Nat → Int} {B : Nat → Int} {base : Nat} {ps : List Pgd} (hF : Fr w1 b r len k p Y base ps) (hA : PgArg w v len k p ao bl bc Y) (hBA : BArg w vb n B) (hW : Below w.heap.size w w1) (hwb : w.heap.size ≤ base) (hbz : base ≤ w1.heap.size) (hal : ∀ i, i < len → k i % 4096 = 0) (hbl : ∀ i, i < len → bl i = 4096) (hl : len ≤ 4096) (a c : Int) (a0 : 0 ≤ a) (a1 : a < 18446744073709551616) :
    Calls Try.prog 20 #[.pointer (some ⟨b, 0, none⟩), .int .u64 a, .int .i64 c] w1 fun e w2 => ∃ vp x, e = .returned (.tuple #[vp, .int .i64 x]) ∧ Below w1.heap.size w1 w2 ∧ Calls Try.prog 21 #[v, .int .u64 a, .int .i64 c] w2 fun e w3 => ∃ vq, e = .returned (.tuple #[vq, .int .i64 x]) ∧ Below w2.heap.size w2 w3 ∧ Calls Try.prog 22 #[.pointer (some ⟨b, 0, none⟩), .int .u64 a, vb] w3 fun e w4 => ∃ y, e = .returned (.int .i64 y) ∧ Below base w3 w4 ∧ after5 v vb vp vq b a y w4 := by
  have hY := hA.by_
  have hM := hF.mm hY
  have hMo := hF.mo hY
  have hln := hF.len
  have hgl : ∀ x ∈ ps, base ≤ x.g ∧ x.g < w1.heap.size := fun x hx => by
    refine ⟨?_, (hMo.ne hx).2.2⟩
    obtain ⟨t, ht, rfl⟩ := List.getElem_of_mem hx
    exact (hF.at_ t _ (List.getElem?_eq_getElem ht)).2.2.2
  have halp : ∀ x ∈ ps, x.k % 4096 = 0 := fun x hx => by
    obtain ⟨t, ht, rfl⟩ := List.getElem_of_mem hx
    rw [(hF.at_ t _ (List.getElem?_eq_getElem ht)).1]
    exact hal t (by omega)
  have huq : ∀ x ∈ ps, ∀ y ∈ ps, x.k = y.k → x = y := fun x hx y hy e => by
    obtain ⟨s, hs, rfl⟩ := List.getElem_of_mem hx
    obtain ⟨t, ht, rfl⟩ := List.getElem_of_mem hy
    rw [(hF.at_ s _ (List.getElem?_eq_getElem hs)).1, (hF.at_ t _ (List.getElem?_eq_getElem ht)).1] at e
    have := hF.k_injL s t (by omega) (by omega) e
    subst this
    rfl
  refine (peek_all b r ps _ a c w1 hM a0 a1).mono fun e w2 hh => ?_
  obtain ⟨vp, h1, hp2, hb2⟩ := hh
  refine ⟨vp, _, h1, hb2, ?_⟩
  have hW2 := hW.trans (hb2.mono hW.size)
  refine (rpeek_all hF hal hbl hY (hA.below hW2) hl a c a0 a1).mono fun e w3 hh => ?_
  obtain ⟨vq, h1, hq3, hb3⟩ := hh
  refine ⟨vq, h1, hb3, ?_⟩
  have hb13 := hb2.trans (hb3.mono hb2.size)
  have hW3 := hW2.trans (hb3.mono hW2.size)
  have hp3 := hp2.below hb3
  refine (poke_all b r ps _ a vb n B w w3 (hMo.below hb13) halp huq a0 a1 hBA hW3 (fun x hx => Nat.le_trans hwb (hgl x hx).1)).mono fun e w4 hh => ?_
  obtain ⟨h1, hbut, bt', hMo4, hpa⟩ := hh
  have hb4 : Below base w3 w4 := hbut.below (Nat.le_trans hbz hb13.size) (fun x hx => (hgl x hx).1)
  refine ⟨_, h1, hb4, ?_⟩
  have hW4 := hW3.trans (hb4.mono hwb)
  refine (rpoke_all hF hal hbl (hA.below hW4) hl a a0 (hBA.below hW4)).mono fun e w5 hh => ?_
  obtain ⟨vr, h1, hb5, hra⟩ := hh
  refine ⟨vr, h1, hb5, ?_, ?_⟩
  · have q1 := (hp3.but hbut (fun x hx => (hgl x hx).2)).below hb5
    have q2 := (hq3.but hbut (fun x hx => Nat.lt_of_lt_of_le (hgl x hx).2 hb2.size)).below hb5
    exact same_bytes q1 q2
  · have hM5 := (hMo4.below hb5).mm
    by_cases hz : pkE ps a n = 0
    · obtain ⟨x, lc, rfl, hrow⟩ := hra.2 hz
      refine same15 b r ps bt' _ w5 hM5 (by omega) ⟨x, lc, by rw [hln], fun h0 => ?_⟩
      obtain ⟨la, g, o, c', rfl, hr⟩ := hrow (by omega)
      rw [← hln] at hr
      refine ⟨la, 0, g, o, c', rfl, hr.congr (fun i hi => ?_) (fun i hi => ?_) (fun i hi j hj => ?_)⟩
      · rw [hF.ordP i hi, (hF.at_ i _ (List.getElem?_eq_getElem hi)).1]
      · rw [hF.ordP i hi, (hF.at_ i _ (List.getElem?_eq_getElem hi)).2.1]
      · rw [hF.ordP i hi, hpa.1 hz _ (List.getElem_mem hi) j hj, (hF.at_ i _ (List.getElem?_eq_getElem hi)).1, btOf_at ((hF.data i _ (List.getElem?_eq_getElem hi)).2 j hj) (hY i j)]
        rfl
    · rw [hra.1 hz]
      rw [hpa.2 hz] at hM5
      exact same15 b r ps _ _ w5 hM5 (by omega) (arg_row hF hbl hY (hA.below (hW4.trans (hb5.mono hW4.size))))
set_option maxRecDepth 20000 in
set_option maxHeartbeats 2000000 in
theorem law5 {v vb : Value} {len nb : Nat} {k p : Nat → Int} {ao : Nat → Option Addr} {bl bc : Nat → Nat} {Y : Nat → Nat → Int} {B : Nat → Int} (a n u : Int) (a0 : 0 ≤ a) (a1 : a < 18446744073709551616) (w : World) (h : PgArg w v len k p ao bl bc Y) (hb : BArg w vb nb B) : Calls Try.prog 5 #[.agg #[v, .int .u64 a, .int .i64 n, .int .u64 u], vb] w fun e w' => e = .returned (.bool true) ∧ Below w.heap.size w w' := by
  obtain ⟨vA, vc, hv, -, -⟩ := h.shape
  obtain ⟨bA, bcp, hvb, -, -⟩ := hb.shape
  have HH : Hid (PgArg w v len k p ao bl bc Y) := h
  have HHb : Hid (BArg w vb nb B) := hb
  clear h hb
  subst hv
  subst hvb
  go_enter Try.func5, Try.ntmps5
  go_wp2_with fail
  obtain ⟨w0, hw0⟩ : ∃ w0, (w.alloc (.cells #[.slice vA len vc, .int .u64 a, .int .i64 n, .int .u64 u] 25)) = w0 := ⟨_, rfl⟩
  have hnew := World.alloc_heap_new w (.cells #[.slice vA len vc, .int .u64 a, .int .i64 n, .int .u64 u] 25)
  rw [hw0] at hnew
  have k0 : w0.cell? ⟨w.heap.size, 0, none⟩ = some (.slice vA len vc) := by simp [World.cell?, hnew]
  have k1 : w0.cell? ⟨w.heap.size, 1, none⟩ = some (.int .u64 a) := by simp [World.cell?, hnew]
  have k2 : w0.cell? ⟨w.heap.size, 2, none⟩ = some (.int .i64 n) := by simp [World.cell?, hnew]
  have hs : w.heap.size + 1 = w0.heap.size := by rw [← hw0]; simp
  have HB : Hid (Below w.heap.size w w0) := by have : Below w.heap.size w w0 := by { rw [← hw0]; exact (Below.refl _ w).alloc (Nat.le_refl _) _ }; exact this
  rw [hw0]
  clear hw0 hnew
  refine (from_any w0 (HH.out.below HB.out)).mono ?_
  rintro e w1 ⟨hb, hcs⟩
  have wl0 : w.heap.size < w0.heap.size := by omega
  have j0 : w1.cell? ⟨w.heap.size, 0, none⟩ = some (.slice vA len vc) := (hb.cell (p := ⟨w.heap.size, 0, none⟩) wl0).trans k0
  have j1 : w1.cell? ⟨w.heap.size, 1, none⟩ = some (.int .u64 a) := (hb.cell (p := ⟨w.heap.size, 1, none⟩) wl0).trans k1
  have j2 : w1.cell? ⟨w.heap.size, 2, none⟩ = some (.int .i64 n) := (hb.cell (p := ⟨w.heap.size, 2, none⟩) wl0).trans k2
  have hz1 := hb.size
  have HW1 : Hid (Below w.heap.size w w1) := HB.out.trans (hb.mono (by omega))
  clear hb k0 k1 k2
  have HSp : Hid (∀ W, Calls Try.prog 10 #[] W fun e w' => e = .returned (.bool true) ∧ Below W.heap.size W w') := speaks11
  rcases hcs with ⟨hne, rfl⟩ | ⟨hz, hl, rfl, ps, hF⟩
  · have hnb : (errE len k p bl != 0) = true := by simpa using hne
    generalize errE len k p bl = er at *
    go_wp2_with fail
    refine (HSp.out _).mono ?_
    rintro e w2 ⟨rfl, hb⟩
    have HB2 : Hid (Below w.heap.size w w2) := HW1.out.trans (hb.mono HW1.out.size)
    clear hb
    go_wp2
    go_ret
    exact ⟨rfl, HB2.out⟩
  · have hfe : fromE k p bl len = 0 := by unfold errE at hz; rw [if_neg (by omega)] at hz; exact hz
    have HM : Hid (Calls Try.prog 20 #[.pointer (some ⟨w0.heap.size + 1, 0, none⟩), .int .u64 a, .int .i64 n] w1 fun e w2 => ∃ vp x, e = .returned (.tuple #[vp, .int .i64 x]) ∧ Below w1.heap.size w1 w2 ∧ Calls Try.prog 21 #[.slice vA len vc, .int .u64 a, .int .i64 n] w2 fun e w3 => ∃ vq, e = .returned (.tuple #[vq, .int .i64 x]) ∧ Below w2.heap.size w2 w3 ∧ Calls Try.prog 22 #[.pointer (some ⟨w0.heap.size + 1, 0, none⟩), .int .u64 a, .slice bA nb bcp] w3 fun e w4 => ∃ y, e = .returned (.int .i64 y) ∧ Below w0.heap.size w3 w4 ∧ after5 (.slice vA len vc) (.slice bA nb bcp) vp vq (w0.heap.size + 1) a y w4) := both5 hF HH.out HHb.out HW1.out (by omega) hz1 (fromE_al len hfe) (fromE_bl len hfe) hl a n a0 a1
    clear hF hfe hz HH HHb
    go_wp2_with fail
    refine HM.out.mono ?_
    rintro e w2 ⟨vp, x, rfl, hb2, ha2⟩
    have H2 : Hid (Calls Try.prog 21 #[.slice vA len vc, .int .u64 a, .int .i64 n] w2 fun e w3 => ∃ vq, e = .returned (.tuple #[vq, .int .i64 x]) ∧ Below w2.heap.size w2 w3 ∧ Calls Try.prog 22 #[.pointer (some ⟨w0.heap.size + 1, 0, none⟩), .int .u64 a, .slice bA nb bcp] w3 fun e w4 => ∃ y, e = .returned (.int .i64 y) ∧ Below w0.heap.size w3 w4 ∧ after5 (.slice vA len vc) (.slice bA nb bcp) vp vq (w0.heap.size + 1) a y w4) := ha2
    have HW2 : Hid (Below w.heap.size w w2) := HW1.out.trans (hb2.mono (by omega))
    have p0 : w2.cell? ⟨w.heap.size, 0, none⟩ = some (.slice vA len vc) := (hb2.cell (p := ⟨w.heap.size, 0, none⟩) (by show w.heap.size < w1.heap.size; omega)).trans j0
    have p1 : w2.cell? ⟨w.heap.size, 1, none⟩ = some (.int .u64 a) := (hb2.cell (p := ⟨w.heap.size, 1, none⟩) (by show w.heap.size < w1.heap.size; omega)).trans j1
    have p2 : w2.cell? ⟨w.heap.size, 2, none⟩ = some (.int .i64 n) := (hb2.cell (p := ⟨w.heap.size, 2, none⟩) (by show w.heap.size < w1.heap.size; omega)).trans j2
    have hz2 : w0.heap.size ≤ w2.heap.size := Nat.le_trans hz1 hb2.size
    clear hb2 ha2 HM j0 j1 j2
    go_wp2_with fail
    refine H2.out.mono ?_
    rintro e w3 ⟨vq, rfl, hb3, ha3⟩
    have H3 : Hid (Calls Try.prog 22 #[.pointer (some ⟨w0.heap.size + 1, 0, none⟩), .int .u64 a, .slice bA nb bcp] w3 fun e w4 => ∃ y, e = .returned (.int .i64 y) ∧ Below w0.heap.size w3 w4 ∧ after5 (.slice vA len vc) (.slice bA nb bcp) vp vq (w0.heap.size + 1) a y w4) := ha3
    have HW3 : Hid (Below w.heap.size w w3) := HW2.out.trans (hb3.mono HW2.out.size)
    have q0 : w3.cell? ⟨w.heap.size, 0, none⟩ = some (.slice vA len vc) := (hb3.cell (p := ⟨w.heap.size, 0, none⟩) (by show w.heap.size < w2.heap.size; omega)).trans p0
    have q1 : w3.cell? ⟨w.heap.size, 1, none⟩ = some (.int .u64 a) := (hb3.cell (p := ⟨w.heap.size, 1, none⟩) (by show w.heap.size < w2.heap.size; omega)).trans p1
    have hz3 : w0.heap.size ≤ w3.heap.size := Nat.le_trans hz2 hb3.size
    clear hb3 ha3 H2 p0 p1 p2
    go_wp2_with fail
    refine H3.out.mono ?_
    rintro e w4 ⟨y, rfl, hb4, ha4⟩
    have H4 : Hid (Calls Try.prog 23 #[.slice vA len vc, .int .u64 a, .slice bA nb bcp] w4 fun e w5 => ∃ vr, e = .returned (.tuple #[vr, .int .i64 y]) ∧ Below w4.heap.size w4 w5 ∧ (Calls Try.prog 24 #[vp, vq] w5 fun e w' => e = .returned (.bool true) ∧ w' = w5) ∧ Calls Try.prog 15 #[.pointer (some ⟨w0.heap.size + 1, 0, none⟩), vr] w5 fun e w' => e = .returned (.bool true) ∧ Below w5.heap.size w5 w') := ha4
    have HW4 : Hid (Below w.heap.size w w4) := HW3.out.trans (hb4.mono (by omega))
    have r0 : w4.cell? ⟨w.heap.size, 0, none⟩ = some (.slice vA len vc) := (hb4.cell (p := ⟨w.heap.size, 0, none⟩) wl0).trans q0
    have r1 : w4.cell? ⟨w.heap.size, 1, none⟩ = some (.int .u64 a) := (hb4.cell (p := ⟨w.heap.size, 1, none⟩) wl0).trans q1
    clear hb4 ha4 H3 q0 q1
    go_wp2_with fail
    refine H4.out.mono ?_
    rintro e w5 ⟨vr, rfl, hb5, hby, hsm⟩
    have H5 : Hid (Calls Try.prog 24 #[vp, vq] w5 fun e w' => e = .returned (.bool true) ∧ w' = w5) := hby
    have H6 : Hid (Calls Try.prog 15 #[.pointer (some ⟨w0.heap.size + 1, 0, none⟩), vr] w5 fun e w' => e = .returned (.bool true) ∧ Below w5.heap.size w5 w') := hsm
    have HW5 : Hid (Below w.heap.size w w5) := HW4.out.trans (hb5.mono HW4.out.size)
    clear hb5 hby hsm H4 r0 r1
    go_wp2_with fail
    refine H5.out.mono ?_
    rintro e w6 ⟨rfl, e6⟩
    have e6' := e6.symm
    subst e6'
    go_wp2_with fail
    refine H6.out.mono ?_
    rintro e w7 ⟨rfl, hb7⟩
    have HW7 : Hid (Below w.heap.size w w7) := HW5.out.trans (hb7.mono HW5.out.size)
    clear hb7
    go_wp2_with fail
    refine (HSp.out _).mono ?_
    rintro e w8 ⟨rfl, hb8⟩
    have HW8 : Hid (Below w.heap.size w w8) := HW7.out.trans (hb8.mono HW7.out.size)
    clear hb8
    go_wp2
    go_ret
    exact ⟨rfl, HW8.out⟩
end Go.Proofs.Ytndbkkldfinggab
