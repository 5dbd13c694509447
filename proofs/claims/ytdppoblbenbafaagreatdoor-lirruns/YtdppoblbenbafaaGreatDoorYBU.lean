/- The document's own look at a program; the program's look at a function by itself. A program is right by the document just if it is by the program: plain. The document's own Run, where there is nothing to run. -/
import Derived.Test.YtdppoblbenbafaaGreatDoorYBT
import Derived.Test.YtdppoblbenbafaaGreatDoorYAL
namespace Go.Proofs.YtdppoblbenbafaaGreatDoor
section
open Go.RowKit Go.Shelf
set_option maxHeartbeats 8000000
set_option maxRecDepth 20000
theorem alone7 (f : Fnh) (l : List Blk) (w : World) (hs : f.nm.size ≤ maxLen) (hl : f.bl = l.length) (hT : Tfa w) (hI : BlkA w f.ba f.bc l) : Calls Tryz.prog 7 #[fnhV f] w fun e w' => e = .returned (.int .i64 (if fnB f fdN l then 0 else 6)) ∧ G w w' := by
  have HC : Hid (∀ W m, Below w.heap.size w W → W.heap[m]? = some (.map oes 14) → Calls Tryz.prog 24 #[.agg #[.map (some m), .map none], fnhV f] W fun e w' => e = .returned (.bool (fnB f fdN l)) ∧ G W w') := fun W m hW hm => function38g f m none fdN l W hl hs (hT.below hW) (hI.below hW) hm (fun b hb i hi => rfl)
  clear hs hl hT hI
  unfold fnhV at *
  generalize fnB f fdN l = R at *
  have HB2 : Hid (∀ o1 o2 o3, G w (((w.alloc o1).alloc o2).alloc o3)) := fun o1 o2 o3 => (((G.refl w).alloc o1).alloc o2).alloc o3
  have HM : Hid (∀ o1 o3, (((w.alloc o1).alloc (.map oes 14)).alloc o3).heap[w.heap.size + 1]? = some (.map oes 14)) := fun o1 o3 => by
    rw [(Go.MapKept.heap_alloc _ _).2 _ (by simp), (show w.heap.size + 1 = (w.alloc o1).heap.size by simp), (Go.MapKept.heap_alloc _ _).1]
  cases R with
  | true =>
    go_enter Tryz.func7, Tryz.ntmps7
    go_wp2_with (first | (go_at_call 23; refine (operations7 _).mono ?_; rintro e w1 ⟨rfl, rfl⟩))
    refine (HC.out _ _ (HB2.out _ _ _).below (by first | exact HM.out _ _ | (simpa using HM.out _ _))).mono ?_
    rintro e w2 ⟨rfl, hg⟩
    have HZ : Hid (G w w2) := (HB2.out _ _ _).trans hg
    clear hg
    go_wp2
    go_ret
    exact ⟨rfl, HZ.out⟩
  | false =>
    go_enter Tryz.func7, Tryz.ntmps7
    go_wp2_with (first | (go_at_call 23; refine (operations7 _).mono ?_; rintro e w1 ⟨rfl, rfl⟩))
    refine (HC.out _ _ (HB2.out _ _ _).below (by first | exact HM.out _ _ | (simpa using HM.out _ _))).mono ?_
    rintro e w2 ⟨rfl, hg⟩
    have HZ : Hid (G w w2) := (HB2.out _ _ _).trans hg
    clear hg
    go_wp2
    go_ret
    exact ⟨rfl, HZ.out⟩
def okF (l : List Fun) (j : Nat) (x : Fun) : Bool := fnB x.h fdN x.bs && ((fiN l x.h.nm == (j : Int)) && csB l x.bs)
def okL (l : List Fun) : List Fun → Nat → Bool
  | [], _ => true
  | x :: r, j => okF l j x && okL l r (j + 1)
/-- Is a program right, by the document? -/
def ckB (l : List Fun) : Bool := (decide (1 ≤ l.length) && decide (l.length ≤ 1024)) && ((l.head?.all fun x => x.h.pa == 0) && okL l l 0)
theorem okL_at (q : List Fun) {l : List Fun} {j : Nat} {x : Fun} (h : l[j]? = some x) (s : Nat) : okL q (l.drop j) (s + j) = (okF q (s + j) x && okL q (l.drop (j + 1)) (s + (j + 1))) := by
  obtain ⟨hj, e⟩ := List.getElem?_eq_some_iff.1 h
  rw [List.drop_eq_getElem_cons hj, e]
  rfl
theorem rcheck10 (l : List Fun) (p : Option Addr) (pc : Nat) (w : World) (hI : FunA w p pc l) : Calls Tryz.prog 10 #[.slice p l.length pc] w fun e w' => e = .returned (.int .i64 (if ckB l then 0 else 6)) ∧ Below w.heap.size w w' := by
  have HI : Hid (FunA w p pc l) := hI
  have hxc := hI.1
  have hxc2 := hI.2.1
  have HV : Hid (ckB l = ((decide (1 ≤ l.length) && decide (l.length ≤ 1024)) && ((l.head?.all fun x => x.h.pa == 0) && okL l l 0))) := rfl
  have KR : Hid (∀ x ∈ l, ∀ W, Below w.heap.size w W → Calls Tryz.prog 25 #[fnhV x.h] W fun e w' => e = .returned (.bool (fnB x.h fdN x.bs)) ∧ G W w') := fun x hx W hW => by
    obtain ⟨t1, t2, t3⟩ := (HI.out.below hW).2.2.1 x hx
    exact rright25 x.h x.bs W t2 t1 t3
  have KF : Hid (∀ (s : ByteArray) W, Below w.heap.size w W → Calls Tryz.prog 27 #[.slice p l.length pc, .string s] W fun e w' => e = .returned (.int .i64 (fiN l s)) ∧ w' = W) := fun s W hW => rfind27 l p pc s W (HI.out.below hW)
  have KC : Hid (∀ x ∈ l, ∀ W, Below w.heap.size w W → Calls Tryz.prog 28 #[.slice p l.length pc, fnhV x.h] W fun e w' => e = .returned (.bool (csB l x.bs)) ∧ Below W.heap.size W w') := fun x hx W hW => by
    obtain ⟨t1, t2, t3⟩ := (HI.out.below hW).2.2.1 x hx
    exact rcalls28 l p pc x.h x.bs W (HI.out.below hW) t1 t3
  obtain ⟨n, hn⟩ : ∃ n, n = l.length := ⟨_, rfl⟩
  have HN : Hid (n = l.length) := hn
  rw [← hn] at hxc HV KF KC ⊢
  clear hI hn
  unfold fnhV at *
  generalize ckB l = R at *
  obtain ⟨E, hE⟩ : ∃ E : Int, E = if R then 0 else 6 := ⟨_, rfl⟩
  have HER : Hid (E = if R then 0 else 6) := hE
  rw [← hE]
  clear hE
  by_cases hn0 : n = 0
  · have HE : Hid (false = R) := by show _ = _; rw [HV.out, hn0]; rfl
    subst hn0
    go_enter Tryz.func10, Tryz.ntmps10
    go_wp2
    go_ret
    exact ⟨ret_int (by rw [HER.out, ← HE.out]; rfl), Below.refl _ _⟩
  by_cases hn2 : 1024 < n
  · have HE : Hid (false = R) := by show _ = _; rw [HV.out, show decide (n ≤ 1024) = false by simp; omega]; simp
    have hn1 : ¬ (n : Int) < 1 := by omega
    go_enter Tryz.func10, Tryz.ntmps10
    go_wp2
    go_ret
    exact ⟨ret_int (by rw [HER.out, ← HE.out]; rfl), Below.refl _ _⟩
  have hn1 : ¬ (n : Int) < 1 := by omega
  have hn3 : ¬ (1024 : Int) < (n : Int) := by omega
  obtain ⟨g, oo, hxo, hcc⟩ := HI.out.2.2.2 (by have := HN.out; omega)
  obtain ⟨x0, hx0⟩ : ∃ x, l[0]? = some x := ⟨_, List.getElem?_eq_getElem (by have := HN.out; omega)⟩
  have a0 := hcc 0 x0 hx0 1 _ rfl
  rw [show oo + 0 * 5 + 1 = oo + 1 by omega] at a0
  have hh : (l.head?.all fun x => x.h.pa == 0) = (x0.h.pa == 0) := by
    cases l with
    | nil => cases hx0
    | cons y r => cases hx0; rfl
  rw [hh, show (decide (1 ≤ n) && decide (n ≤ 1024)) = true by simp; omega] at HV
  clear hh hx0 hcc
  subst hxo
  generalize x0.h.pa = P0 at *
  by_cases hp0 : P0 = 0
  · subst hp0
    have HE : Hid (R = okL l (l.drop 0) (0 + 0)) := by show _ = _; rw [HV.out]; simp
    clear HV
    go_enter Tryz.func10, Tryz.ntmps10
    go_wp2
    clear a0
    go_loopw [3] (fun v wx => ∃ j : Nat, j ≤ n ∧ v = .int .i64 j ∧ Below w.heap.size w wx ∧ R = okL l (l.drop j) (0 + j)) (fun v _ => n - (intOf v).toNat)
    case atStart => exact ⟨0, Nat.zero_le _, rfl, Below.refl _ _, HE.out⟩
    case round =>
      obtain ⟨j, hj, rfl, hb, hRu⟩ := hrel
      have HB : Hid (Below w.heap.size w wr) := hb
      have HRu : Hid (R = okL l (l.drop j) (0 + j)) := hRu
      clear hRu HE hb
      by_cases hlt : j < n
      · obtain ⟨x, hi⟩ : ∃ x, l[j]? = some x := ⟨_, List.getElem?_eq_getElem (by have := HN.out; omega)⟩
        have hmem : x ∈ l := List.mem_of_getElem? hi
        have HCl : Hid (∀ W, Below w.heap.size w W → W.cell? ⟨g, oo + j * 5, none⟩ = some (.string x.h.nm) ∧ W.cell? ⟨g, oo + j * 5 + 1, none⟩ = some (.int .i64 x.h.pa) ∧ W.cell? ⟨g, oo + j * 5 + 2, none⟩ = some (.int .i64 x.h.rg) ∧ W.cell? ⟨g, oo + j * 5 + 3, none⟩ = some (.int .i64 x.h.fr) ∧ W.cell? ⟨g, oo + j * 5 + 4, none⟩ = some (.slice x.h.ba x.h.bl x.h.bc)) := fun W hW => by
          obtain ⟨g', oo', hxo', hcc⟩ := (HI.out.below hW).2.2.2 (by have := HN.out; omega)
          cases hxo'
          exact ⟨hcc j x hi 0 _ rfl, hcc j x hi 1 _ rfl, hcc j x hi 2 _ rfl, hcc j x hi 3 _ rfl, hcc j x hi 4 _ rfl⟩
        have HU : Hid (okL l (l.drop j) (0 + j) = (okF l (0 + j) x && okL l (l.drop (j + 1)) (0 + (j + 1)))) := okL_at l hi 0
        have HOk : Hid (okF l (0 + j) x = (fnB x.h fdN x.bs && ((fiN l x.h.nm == ((0 + j : Nat) : Int)) && csB l x.bs))) := rfl
        have kR := KR.out x hmem
        have kF := KF.out x.h.nm
        have kC := KC.out x hmem
        clear hi hmem
        generalize fnB x.h fdN x.bs = X1 at *
        generalize csB l x.bs = X3 at *
        generalize fiN l x.h.nm = fi at *
        rw [Nat.zero_add j] at HOk
        obtain ⟨d0, d1, d2, d3, d4⟩ := HCl.out wr HB.out
        go_wp2_with fail
        refine (kR _ HB.out).mono ?_
        rintro e w1 ⟨rfl, hg⟩
        have HB1 : Hid (Below w.heap.size w w1) := HB.out.trans (hg.below.mono HB.out.size)
        clear hg
        cases X1 with
        | false =>
          have HE : Hid (false = R) := by show _ = _; rw [HRu.out, HU.out, Nat.zero_add j, HOk.out]; rfl
          go_wp2
          go_ret
          exact ⟨ret_int (by rw [HER.out, ← HE.out]; rfl), HB1.out⟩
        | true =>
          clear d0 d1 d2 d3 d4
          obtain ⟨d0, d1, d2, d3, d4⟩ := HCl.out w1 HB1.out
          by_cases hf : fi = (j : Int)
          · have q1 : (fi != (j : Int)) = false := by simpa using hf
            have q2 : (fi == (j : Int)) = true := by simpa using hf
            clear hf
            go_wp2_with (first | (go_at_call 27; refine (kF _ HB1.out).mono ?_; rintro e wf ⟨rfl, rfl⟩))
            refine (kC _ HB1.out).mono ?_
            rintro e w2 ⟨rfl, hb2⟩
            have HB2 : Hid (Below w.heap.size w w2) := HB1.out.trans (hb2.mono HB1.out.size)
            clear hb2
            cases X3 with
            | false =>
              have HE : Hid (false = R) := by show _ = _; rw [HRu.out, HU.out, Nat.zero_add j, HOk.out, q2]; rfl
              go_wp2
              go_ret
              exact ⟨ret_int (by rw [HER.out, ← HE.out]; rfl), HB2.out⟩
            | true =>
              have HE : Hid (R = okL l (l.drop (j + 1)) (0 + (j + 1))) := by show _ = _; rw [HRu.out, HU.out, Nat.zero_add j, HOk.out, q2]; rfl
              go_wp2
              go_round
              case rel => exact ⟨j + 1, by omega, by go_num, HB2.out, HE.out⟩
              case measure => simp [intOf]; omega
          · have q1 : (fi != (j : Int)) = true := by simpa using hf
            have q2 : (fi == (j : Int)) = false := by simpa using hf
            have HE : Hid (false = R) := by show _ = _; rw [HRu.out, HU.out, Nat.zero_add j, HOk.out, q2]; rfl
            clear hf
            go_wp2_with (first | (go_at_call 27; refine (kF _ HB1.out).mono ?_; rintro e wf ⟨rfl, rfl⟩))
            go_ret
            exact ⟨ret_int (by rw [HER.out, ← HE.out]; rfl), HB1.out⟩
      · obtain rfl : j = n := by omega
        have HE : Hid (true = R) := by show _ = _; rw [HRu.out, List.drop_eq_nil_of_le (by have := HN.out; omega)]; rfl
        go_wp2
        go_ret
        exact ⟨ret_int (by rw [HER.out, ← HE.out]; rfl), HB.out⟩
  · have e3 : (P0 != 0) = true := by simpa using hp0
    have HE : Hid (false = R) := by show _ = _; rw [HV.out, show (P0 == 0) = false by simpa using hp0]; rfl
    clear hp0
    go_enter Tryz.func10, Tryz.ntmps10
    go_wp2
    go_ret
    exact ⟨ret_int (by rw [HER.out, ← HE.out]; rfl), Below.refl _ _⟩
end
section
open Go.RowKit Go.Shelf
/-- Instructions that are right by themselves, and whose calls are right in a program, are right in it; and back. -/
theorem ins_to (l : List Fun) (f : Fnh) (i : Ins) (F : ByteArray) (h : insB f i F none = true) (hc : clB l i = true) : insB f i F (fdF l i.nm) = true := by
  unfold insB at h ⊢
  unfold clB at hc
  unfold fdF
  simp only [Bool.and_eq_true] at h ⊢
  obtain ⟨h0, h1, h2, h3, h4, h5, h6, h7, h8⟩ := h
  refine ⟨h0, h1, h2, h3, h4, h5, h6, h7, ?_⟩
  unfold nanB at h8 ⊢
  by_cases hop : i.op = 7
  · rw [if_pos hop] at h8 hc ⊢
    unfold calB at h8 ⊢
    cases hr : rtA i.nm.data.toList with
    | some k => rw [hr] at h8; exact h8
    | none =>
      rw [hr] at hc h8
      cases hf : fnOf l i.nm with
      | none => rw [hf] at hc; simp at hc
      | some y =>
        rw [hf] at hc
        simp at hc ⊢
        omega
  · rw [if_neg hop] at h8 ⊢
    exact h8
theorem ins_back (l : List Fun) (f : Fnh) (i : Ins) (F : ByteArray) (hl : ∀ y ∈ l, nmB y.h.nm.data.toList = true ∧ y.h.pa ≤ 7) (h : insB f i F (fdF l i.nm) = true) : insB f i F none = true ∧ clB l i = true := by
  unfold insB at h ⊢
  unfold clB
  unfold fdF at h
  simp only [Bool.and_eq_true] at h ⊢
  obtain ⟨h0, h1, h2, h3, h4, h5, h6, h7, h8⟩ := h
  unfold nanB at h8 ⊢
  by_cases hop : i.op = 7
  · rw [if_pos hop] at h8 ⊢
    rw [if_pos hop]
    unfold calB at h8 ⊢
    cases hr : rtA i.nm.data.toList with
    | some k => rw [hr] at h8; exact ⟨⟨h0, h1, h2, h3, h4, h5, h6, h7, h8⟩, rfl⟩
    | none =>
      rw [hr] at h8
      cases hf : fnOf l i.nm with
      | none => rw [hf] at h8; simp at h8
      | some y =>
        rw [hf] at h8
        simp at h8
        unfold fnOf at hf
        have hm := List.mem_of_find?_eq_some hf
        have hn := List.find?_some hf
        simp at hn
        obtain ⟨g1, g2⟩ := hl y hm
        rw [hn] at g1
        refine ⟨⟨h0, h1, h2, h3, h4, h5, h6, h7, ?_⟩, ?_⟩
        · simp [g1]; omega
        · simp; omega
  · rw [if_neg hop] at h8 ⊢
    rw [if_neg hop]
    exact ⟨⟨h0, h1, h2, h3, h4, h5, h6, h7, h8⟩, rfl⟩
theorem up_to (l : List Fun) (f : Fnh) (n : Nat) : ∀ (q : List Ins) (j : Nat), upB f fdN n q j = true → q.all (clB l) = true → upB f (fdF l) n q j = true
  | [], _, _, _ => rfl
  | i :: r, j, h, hc => by
    unfold upB at h ⊢
    unfold atB at h ⊢
    simp only [List.all_cons, Bool.and_eq_true] at h hc ⊢
    exact ⟨⟨h.1.1, ins_to l f i _ h.1.2 hc.1⟩, up_to l f n r (j + 1) h.2 hc.2⟩
theorem up_back (l : List Fun) (f : Fnh) (n : Nat) (hl : ∀ y ∈ l, nmB y.h.nm.data.toList = true ∧ y.h.pa ≤ 7) : ∀ (q : List Ins) (j : Nat), upB f (fdF l) n q j = true → upB f fdN n q j = true ∧ q.all (clB l) = true
  | [], _, _ => ⟨rfl, rfl⟩
  | i :: r, j, h => by
    unfold upB at h ⊢
    unfold atB at h ⊢
    simp only [List.all_cons, Bool.and_eq_true] at h ⊢
    obtain ⟨a, b⟩ := ins_back l f i _ hl h.1.2
    obtain ⟨c, d⟩ := up_back l f n hl r (j + 1) h.2
    exact ⟨⟨⟨h.1.1, a⟩, c⟩, b, d⟩
theorem fn_to (l : List Fun) (f : Fnh) (bs : List Blk) (h : fnB f fdN bs = true) (hc : csB l bs = true) : fnB f (fdF l) bs = true := by
  unfold fnB blsB blkB at h ⊢
  unfold csB at hc
  simp only [Bool.and_eq_true, List.all_eq_true] at h hc ⊢
  refine ⟨h.1, h.2.1, h.2.2.1, h.2.2.2.1, h.2.2.2.2.1, fun b hb => ?_⟩
  have := h.2.2.2.2.2 b hb
  exact ⟨this.1, up_to l f _ b.l 0 this.2 (List.all_eq_true.2 (hc b hb))⟩
theorem fn_back (l : List Fun) (f : Fnh) (bs : List Blk) (hl : ∀ y ∈ l, nmB y.h.nm.data.toList = true ∧ y.h.pa ≤ 7) (h : fnB f (fdF l) bs = true) : fnB f fdN bs = true ∧ csB l bs = true := by
  unfold fnB blsB blkB at h ⊢
  unfold csB
  simp only [Bool.and_eq_true, List.all_eq_true] at h ⊢
  refine ⟨⟨h.1, h.2.1, h.2.2.1, h.2.2.2.1, h.2.2.2.2.1, fun b hb => ?_⟩, fun b hb => ?_⟩
  · have := h.2.2.2.2.2 b hb
    exact ⟨this.1, (up_back l f _ hl b.l 0 this.2).1⟩
  · have := h.2.2.2.2.2 b hb
    exact List.all_eq_true.1 (up_back l f _ hl b.l 0 this.2).2
theorem okL_iff (q : List Fun) : ∀ (l : List Fun) (s : Nat), okL q l s = true ↔ ∀ (j : Nat) (x : Fun), l[j]? = some x → okF q (s + j) x = true
  | [], s => by simp [okL]
  | y :: r, s => by
    unfold okL
    rw [Bool.and_eq_true, okL_iff q r (s + 1)]
    constructor
    · rintro ⟨h1, h2⟩ j x hx
      cases j with
      | zero => simp at hx; subst hx; exact h1
      | succ j =>
        have := h2 j x (by simpa using hx)
        rw [show s + 1 + j = s + (j + 1) by omega] at this
        exact this
    · intro h
      refine ⟨h 0 y rfl, fun j x hx => ?_⟩
      have := h (j + 1) x (by simpa using hx)
      rw [show s + (j + 1) = s + 1 + j by omega] at this
      exact this
theorem nodB_iff : ∀ (r a : List Fun), nodB a r = true ↔ ∀ (j : Nat) (x : Fun), r[j]? = some x → ∀ y ∈ a ++ r.take j, y.h.nm ≠ x.h.nm
  | [], a => by simp [nodB]
  | z :: r, a => by
    unfold nodB
    rw [Bool.and_eq_true, nodB_iff r (a ++ [z])]
    constructor
    · rintro ⟨h1, h2⟩ j x hx y hy
      cases j with
      | zero =>
        simp at hx hy
        subst hx
        have h1' : fnOf a z.h.nm = none := by simpa using h1
        unfold fnOf at h1'
        have := List.find?_eq_none.1 h1' y hy
        simpa using this
      | succ j =>
        refine h2 j x (by simpa using hx) y ?_
        simp at hy ⊢
        rcases hy with hy | hy | hy
        · exact .inl hy
        · exact .inr (.inl hy)
        · exact .inr (.inr hy)
    · intro h
      refine ⟨?_, fun j x hx y hy => ?_⟩
      · have : fnOf a z.h.nm = none := by
          unfold fnOf
          rw [List.find?_eq_none]
          intro y hy
          have := h 0 z rfl y (by simp [hy])
          simpa using this
        rw [this]
        rfl
      · refine h (j + 1) x (by simpa using hx) y ?_
        simp at hy ⊢
        rcases hy with hy | hy | hy
        · exact .inl hy
        · exact .inr (.inl hy)
        · exact .inr (.inr hy)
theorem fi_iff {l : List Fun} {j : Nat} {x : Fun} (h : l[j]? = some x) : (fiN l x.h.nm == (j : Int)) = true ↔ ∀ y ∈ l.take j, y.h.nm ≠ x.h.nm := by
  constructor
  · intro e y hy
    have e' : fiN l x.h.nm = (j : Int) := by simpa using e
    rw [List.mem_take_iff_getElem] at hy
    obtain ⟨k, hk, rfl⟩ := hy
    unfold fiN at e'
    cases hf : l.findIdx? (fun y => decide (y.h.nm = x.h.nm)) with
    | none => rw [hf] at e'; simp at e'
    | some m =>
      rw [hf] at e'
      have hm : m = j := by simp at e'; omega
      subst hm
      rw [List.findIdx?_eq_some_iff_getElem] at hf
      obtain ⟨_, _, h2⟩ := hf
      have := h2 k (by omega)
      simpa using this
  · intro ha
    rw [fiN_at h rfl ha]
    simp
/-- The two looks at a program tell the same. -/
theorem ck_eq (l : List Fun) : ckB l = prB l := by
  unfold ckB prB
  generalize (decide (1 ≤ l.length) && decide (l.length ≤ 1024)) = a
  generalize (l.head?.all fun x => x.h.pa == 0) = b
  have key : okL l l 0 = (nodB [] l && fnsB (fdF l) l) := by
    rw [Bool.eq_iff_iff, Bool.and_eq_true, okL_iff, nodB_iff]
    constructor
    · intro h
      refine ⟨fun j x hx y hy => ?_, ?_⟩
      · have := h j x hx
        unfold okF at this
        simp only [Bool.and_eq_true] at this
        rw [Nat.zero_add] at this
        exact (fi_iff hx).1 this.2.1 y (by simpa using hy)
      · unfold fnsB
        rw [List.all_eq_true]
        intro x hx
        obtain ⟨j, hj, e⟩ := List.mem_iff_getElem.1 hx
        have := h j x (by rw [List.getElem?_eq_getElem hj, e])
        unfold okF at this
        simp only [Bool.and_eq_true] at this
        exact fn_to l x.h x.bs this.1 this.2.2
    · rintro ⟨h1, h2⟩ j x hx
      unfold fnsB at h2
      rw [List.all_eq_true] at h2
      have hl : ∀ y ∈ l, nmB y.h.nm.data.toList = true ∧ y.h.pa ≤ 7 := fun y hy => by
        have := h2 y hy
        unfold fnB at this
        simp only [Bool.and_eq_true] at this
        refine ⟨this.1, ?_⟩
        have t := this.2.1
        simp [witB] at t
        omega
      obtain ⟨c1, c2⟩ := fn_back l x.h x.bs hl (h2 x (List.mem_of_getElem? hx))
      unfold okF
      rw [c1, c2, Nat.zero_add, (fi_iff hx).2 (fun y hy => h1 j x hx y (by simpa using hy))]
      rfl
  rw [key]
end
section
open Go.RowKit Go.Shelf
set_option maxRecDepth 20000
set_option maxHeartbeats 4000000
theorem rrun_err (p : List Fun) (pp iv : Option Addr) (pc n ic : Nat) (fuel : Int) (w : World) (hI : FunA w pp pc p) (he : ¬ errV p n fuel = 0) : Calls Tryz.prog 14 #[.slice pp p.length pc, .slice iv n ic, .int .i64 fuel] w fun e w' => e = .returned (.tuple #[.agg #[.int .i64 0, .int .i64 0, .slice none 0 0, .int .i64 0], .int .i64 (errV p n fuel)]) ∧ Below w.heap.size w w' := by
  have HB0 : Hid (Below w.heap.size w (w.alloc (.cells #[.int .i64 0, .int .i64 0, .slice none 0 0, .int .i64 0] 36))) := (Below.refl _ _).alloc (Nat.le_refl _) _
  have HX : Hid (Bk (w.alloc (.cells #[.int .i64 0, .int .i64 0, .slice none 0 0, .int .i64 0] 36)) w.heap.size 36 [.int .i64 0, .int .i64 0, .slice none 0 0, .int .i64 0]) := zx_new w
  have HC : Hid (Calls Tryz.prog 10 #[.slice pp p.length pc] (w.alloc (.cells #[.int .i64 0, .int .i64 0, .slice none 0 0, .int .i64 0] 36)) fun e w' => e = .returned (.int .i64 (if prB p then 0 else 6)) ∧ Below (w.alloc (.cells #[.int .i64 0, .int .i64 0, .slice none 0 0, .int .i64 0] 36)).heap.size (w.alloc (.cells #[.int .i64 0, .int .i64 0, .slice none 0 0, .int .i64 0] 36)) w') := by
    have t := rcheck10 p pp pc _ (hI.below HB0.out)
    rw [ck_eq] at t
    exact t
  have hne : ∃ m, m = p.length := ⟨_, rfl⟩
  obtain ⟨m, hm⟩ := hne
  rw [← hm] at HC ⊢
  clear hI hm
  unfold errV at he ⊢
  generalize prB p = B at *
  cases B with
  | false =>
    simp only [Bool.false_eq_true, if_false] at HC ⊢
    clear he
    go_enter Tryz.func14, Tryz.ntmps14
    go_wp2_with fail
    refine HC.out.mono ?_
    rintro e w1 ⟨rfl, hb1⟩
    have HB1 : Hid (Below w.heap.size w w1) := HB0.out.trans (hb1.mono HB0.out.size)
    have hx := HX.out.below hb1
    have HX4 : Hid (Bk ((((w1.setCell ⟨w.heap.size, 0, none⟩ (.int .i64 0)).setCell ⟨w.heap.size, 1, none⟩ (.int .i64 0)).setCell ⟨w.heap.size, 2, none⟩ (.slice none 0 0)).setCell ⟨w.heap.size, 3, none⟩ (.int .i64 0)) w.heap.size 36 [.int .i64 0, .int .i64 0, .slice none 0 0, .int .i64 0]) := (((hx.set 0 (.int .i64 0)).set 1 (.int .i64 0)).set 2 (.slice none 0 0)).set 3 (.int .i64 0)
    have HB4 : Hid (Below w.heap.size w ((((w1.setCell ⟨w.heap.size, 0, none⟩ (.int .i64 0)).setCell ⟨w.heap.size, 1, none⟩ (.int .i64 0)).setCell ⟨w.heap.size, 2, none⟩ (.slice none 0 0)).setCell ⟨w.heap.size, 3, none⟩ (.int .i64 0))) := Onl.below (Nat.le_refl _) HB1.out (((((Onl.of_below (Below.refl _ _)).set (S := fun b => b = w.heap.size) rfl).set rfl).set rfl).set rfl) (fun b e => by omega)
    have x0 := hx.cell (j := 0) rfl
    have x1 := hx.cell (j := 1) rfl
    have x2 := hx.cell (j := 2) rfl
    have x3 := hx.cell (j := 3) rfl
    have zx0 := hx.fz 0
    have zx1 := hx.fz 1
    have zx2 := hx.fz 2
    have zx3 := hx.fz 3
    clear hb1 hx
    go_wp2
    clear x0 x1 x2 x3 zx0 zx1 zx2 zx3
    generalize ((((w1.setCell ⟨w.heap.size, 0, none⟩ (.int .i64 0)).setCell ⟨w.heap.size, 1, none⟩ (.int .i64 0)).setCell ⟨w.heap.size, 2, none⟩ (.slice none 0 0)).setCell ⟨w.heap.size, 3, none⟩ (.int .i64 0)) = Wf at *
    have c0 := HX4.out.cell (j := 0) rfl
    have c1 := HX4.out.cell (j := 1) rfl
    have c2 := HX4.out.cell (j := 2) rfl
    have c3 := HX4.out.cell (j := 3) rfl
    exact bodyPost_ret (v := .tuple #[.agg #[.int .i64 0, .int .i64 0, .slice none 0 0, .int .i64 0], .int .i64 6]) (by simp [results, Tryz.results14, go_sem, c0, c1, c2, c3]) rfl ⟨rfl, HB4.out⟩
  | true =>
    simp only [if_true] at HC he ⊢
    by_cases h1 : 65536 < n
    · rw [if_pos h1]
      clear he
      have h1' : (65536 : Int) < n := by omega
      go_enter Tryz.func14, Tryz.ntmps14
      go_wp2_with fail
      refine HC.out.mono ?_
      rintro e w1 ⟨rfl, hb1⟩
      have HB1 : Hid (Below w.heap.size w w1) := HB0.out.trans (hb1.mono HB0.out.size)
      have hx := HX.out.below hb1
      have HX4 : Hid (Bk ((((w1.setCell ⟨w.heap.size, 0, none⟩ (.int .i64 0)).setCell ⟨w.heap.size, 1, none⟩ (.int .i64 0)).setCell ⟨w.heap.size, 2, none⟩ (.slice none 0 0)).setCell ⟨w.heap.size, 3, none⟩ (.int .i64 0)) w.heap.size 36 [.int .i64 0, .int .i64 0, .slice none 0 0, .int .i64 0]) := (((hx.set 0 (.int .i64 0)).set 1 (.int .i64 0)).set 2 (.slice none 0 0)).set 3 (.int .i64 0)
      have HB4 : Hid (Below w.heap.size w ((((w1.setCell ⟨w.heap.size, 0, none⟩ (.int .i64 0)).setCell ⟨w.heap.size, 1, none⟩ (.int .i64 0)).setCell ⟨w.heap.size, 2, none⟩ (.slice none 0 0)).setCell ⟨w.heap.size, 3, none⟩ (.int .i64 0))) := Onl.below (Nat.le_refl _) HB1.out (((((Onl.of_below (Below.refl _ _)).set (S := fun b => b = w.heap.size) rfl).set rfl).set rfl).set rfl) (fun b e => by omega)
      have x0 := hx.cell (j := 0) rfl
      have x1 := hx.cell (j := 1) rfl
      have x2 := hx.cell (j := 2) rfl
      have x3 := hx.cell (j := 3) rfl
      have zx0 := hx.fz 0
      have zx1 := hx.fz 1
      have zx2 := hx.fz 2
      have zx3 := hx.fz 3
      clear hb1 hx
      go_wp2
      clear x0 x1 x2 x3 zx0 zx1 zx2 zx3
      generalize ((((w1.setCell ⟨w.heap.size, 0, none⟩ (.int .i64 0)).setCell ⟨w.heap.size, 1, none⟩ (.int .i64 0)).setCell ⟨w.heap.size, 2, none⟩ (.slice none 0 0)).setCell ⟨w.heap.size, 3, none⟩ (.int .i64 0)) = Wf at *
      have c0 := HX4.out.cell (j := 0) rfl
      have c1 := HX4.out.cell (j := 1) rfl
      have c2 := HX4.out.cell (j := 2) rfl
      have c3 := HX4.out.cell (j := 3) rfl
      exact bodyPost_ret (v := .tuple #[.agg #[.int .i64 0, .int .i64 0, .slice none 0 0, .int .i64 0], .int .i64 2]) (by simp [results, Tryz.results14, go_sem, c0, c1, c2, c3]) rfl ⟨rfl, HB4.out⟩
    · rw [if_neg h1] at he ⊢
      have h1' : ¬ (65536 : Int) < n := by omega
      by_cases h2 : fuel < 0
      · rw [if_pos h2]
        clear he
        go_enter Tryz.func14, Tryz.ntmps14
        go_wp2_with fail
        refine HC.out.mono ?_
        rintro e w1 ⟨rfl, hb1⟩
        have HB1 : Hid (Below w.heap.size w w1) := HB0.out.trans (hb1.mono HB0.out.size)
        have hx := HX.out.below hb1
        have HX4 : Hid (Bk ((((w1.setCell ⟨w.heap.size, 0, none⟩ (.int .i64 0)).setCell ⟨w.heap.size, 1, none⟩ (.int .i64 0)).setCell ⟨w.heap.size, 2, none⟩ (.slice none 0 0)).setCell ⟨w.heap.size, 3, none⟩ (.int .i64 0)) w.heap.size 36 [.int .i64 0, .int .i64 0, .slice none 0 0, .int .i64 0]) := (((hx.set 0 (.int .i64 0)).set 1 (.int .i64 0)).set 2 (.slice none 0 0)).set 3 (.int .i64 0)
        have HB4 : Hid (Below w.heap.size w ((((w1.setCell ⟨w.heap.size, 0, none⟩ (.int .i64 0)).setCell ⟨w.heap.size, 1, none⟩ (.int .i64 0)).setCell ⟨w.heap.size, 2, none⟩ (.slice none 0 0)).setCell ⟨w.heap.size, 3, none⟩ (.int .i64 0))) := Onl.below (Nat.le_refl _) HB1.out (((((Onl.of_below (Below.refl _ _)).set (S := fun b => b = w.heap.size) rfl).set rfl).set rfl).set rfl) (fun b e => by omega)
        have x0 := hx.cell (j := 0) rfl
        have x1 := hx.cell (j := 1) rfl
        have x2 := hx.cell (j := 2) rfl
        have x3 := hx.cell (j := 3) rfl
        have zx0 := hx.fz 0
        have zx1 := hx.fz 1
        have zx2 := hx.fz 2
        have zx3 := hx.fz 3
        clear hb1 hx
        go_wp2
        clear x0 x1 x2 x3 zx0 zx1 zx2 zx3
        generalize ((((w1.setCell ⟨w.heap.size, 0, none⟩ (.int .i64 0)).setCell ⟨w.heap.size, 1, none⟩ (.int .i64 0)).setCell ⟨w.heap.size, 2, none⟩ (.slice none 0 0)).setCell ⟨w.heap.size, 3, none⟩ (.int .i64 0)) = Wf at *
        have c0 := HX4.out.cell (j := 0) rfl
        have c1 := HX4.out.cell (j := 1) rfl
        have c2 := HX4.out.cell (j := 2) rfl
        have c3 := HX4.out.cell (j := 3) rfl
        exact bodyPost_ret (v := .tuple #[.agg #[.int .i64 0, .int .i64 0, .slice none 0 0, .int .i64 0], .int .i64 1]) (by simp [results, Tryz.results14, go_sem, c0, c1, c2, c3]) rfl ⟨rfl, HB4.out⟩
      · rw [if_neg h2] at he
        exact absurd rfl he
end
end Go.Proofs.YtdppoblbenbafaaGreatDoor
