/- Of which node each is a kid: the program's Parents. Plain facts on parents and kids. -/
import Derived.Test.YtkkmeogehapjoaaGreatDoorY10
namespace Go.Proofs.YtkkmeogehapjoaaGreatDoor
open Go.RowKit Go.Shelf
theorem right_len {l : List Nd} (hr : rightB l = true) : 1 ≤ l.length ∧ l.length ≤ 20000 := by
  unfold rightB at hr
  split at hr
  · cases hr
  · omega
theorem right_par {l : List Nd} (hr : rightB l = true) : ∃ p, parR l = some p ∧ (p.take (l.length - 1)).contains (-1) = false := by
  unfold rightB at hr
  split at hr
  · cases hr
  · cases hp : parR l with
    | none => rw [hp] at hr; cases hr
    | some p =>
      rw [hp] at hr
      simp only [Bool.and_eq_true] at hr
      exact ⟨p, rfl, by simpa using hr.1⟩
set_option maxRecDepth 100000 in
set_option maxHeartbeats 4000000 in
theorem parents_right (l : List Nd) (ao : Option Addr) (c : Nat) (w : World) (hT : Tm w) (hl : NdA w ao c l) (hr : rightB l = true) (p : List Int) (hp : parR l = some p) : Calls Tryz.prog 21 #[.agg #[.slice ao l.length c]] w fun e w' => Below w.heap.size w w' ∧ ∃ g, w.heap.size ≤ g ∧ Blk w' g p ∧ e = .returned (.tuple #[.slice (some ⟨g, 0, none⟩) l.length l.length, .int .i64 0]) := by
  have h01 := right_len hr
  have hcn : (p.take (l.length - 1)).contains (-1) = false := by
    obtain ⟨p', h1, h2⟩ := right_par hr
    rw [hp] at h1
    cases h1
    exact h2
  have H11 : Hid (∀ W, Below w.heap.size w W → Calls Tryz.prog 11 #[.agg #[.slice ao l.length c]] W fun e w' => e = .returned (.int .i64 0) ∧ Below W.heap.size W w') := fun W hW => by
    have t := check11 l ao c W (hT.below hW) (hl.below hW)
    rw [if_pos hr] at t
    exact t
  have H41 : Hid (∀ W, Below w.heap.size w W → Calls Tryz.prog 41 #[.slice ao l.length c] W fun e w' => Below W.heap.size W w' ∧ ∃ g, W.heap.size ≤ g ∧ Blk w' g p ∧ e = .returned (.tuple #[.slice (some ⟨g, 0, none⟩) l.length l.length, .bool true])) := fun W hW => by
    refine (parents41 l ao c W (hl.below hW) h01.1 h01.2).mono ?_
    rintro e w' ⟨h1, h2⟩
    rw [hp] at h2
    obtain ⟨g, g1, g2, g3, g4⟩ := h2
    rw [hcn] at g4
    exact ⟨h1, g, g1, g3, g4⟩
  have h1 := hl.1
  have h2 := hl.2.1
  generalize l.length = n at *
  clear hT hl hr hp hcn h01
  go_enter Tryz.func21, Tryz.ntmps21
  go_wp2_with fail
  refine (H11.out _ (below_cells _ _ _)).mono ?_
  rintro e w1 ⟨rfl, hb⟩
  have HB1 : Hid (Below w.heap.size w w1) := (below_cells w _ _).trans (hb.mono (by simp))
  have d0 := (bcell hb).1 w.heap.size 0 (by simp)
  simp at d0
  clear hb H11
  go_wp2_with fail
  refine (H41.out _ HB1.out).mono ?_
  rintro e w2 ⟨hb, g, hg, hbk, rfl⟩
  have HB2 : Hid (Below w.heap.size w w2) := HB1.out.trans (hb.mono HB1.out.size)
  have HK : Hid (w.heap.size ≤ g ∧ Blk w2 g p) := ⟨by have := HB1.out.size; omega, hbk⟩
  clear hb hbk hg d0
  go_wp2
  go_ret2
  exact ⟨HB2.out, g, HK.out.1, HK.out.2, rfl⟩
set_option maxRecDepth 100000 in
set_option maxHeartbeats 4000000 in
theorem parents_wrong (l : List Nd) (ao : Option Addr) (c : Nat) (w : World) (hT : Tm w) (hl : NdA w ao c l) (hr : rightB l = false) : Calls Tryz.prog 21 #[.agg #[.slice ao l.length c]] w fun e w' => Below w.heap.size w w' ∧ e = .returned (.tuple #[.slice none 0 0, .int .i64 3]) := by
  have H11 : Hid (∀ W, Below w.heap.size w W → Calls Tryz.prog 11 #[.agg #[.slice ao l.length c]] W fun e w' => e = .returned (.int .i64 3) ∧ Below W.heap.size W w') := fun W hW => by
    have t := check11 l ao c W (hT.below hW) (hl.below hW)
    rw [if_neg (by simp [hr])] at t
    exact t
  have h1 := hl.1
  have h2 := hl.2.1
  generalize l.length = n at *
  clear hT hl hr
  go_enter Tryz.func21, Tryz.ntmps21
  go_wp2_with fail
  refine (H11.out _ (below_cells _ _ _)).mono ?_
  rintro e w1 ⟨rfl, hb⟩
  have HB1 : Hid (Below w.heap.size w w1) := (below_cells w _ _).trans (hb.mono (by simp))
  clear hb H11
  go_wp2
  go_ret2
  exact ⟨HB1.out, rfl⟩
/-- Each kid stands ahead of its node. -/
def Kin (l : List Nd) : Prop := ∀ (k : Nat) x, l[k]? = some x → ∀ y ∈ x.ks, 0 ≤ y ∧ y < (k : Int)
theorem pAll_kin : ∀ (l : List Nd) (k : Nat) (p q : List Int), pAll k l p = some q → ∀ (j : Nat) x, l[j]? = some x → ∀ y ∈ x.ks, 0 ≤ y ∧ y < ((k + j : Nat) : Int)
  | [], _, _, _, _, j, x, hx => by simp at hx
  | z :: r, k, p, q, h, j, x, hx => by
    unfold pAll at h
    cases hq : pKids k z.ks p with
    | none => rw [hq] at h; cases h
    | some p' =>
      rw [hq] at h
      cases j with
      | zero =>
        simp at hx
        subst hx
        intro y hy
        have t := pKids_inn hq y hy
        omega
      | succ j =>
        intro y hy
        have t := pAll_kin r (k + 1) p' q h j x (by simpa using hx) y hy
        omega
theorem par_kin {l : List Nd} {p : List Int} (h : parR l = some p) : Kin l := fun k x hx y hy => by
  have t := pAll_kin l 0 _ p h k x hx y hy
  omega
/-- Each entry is none, or a node that has it as a kid. -/
def Pin (l : List Nd) (p : List Int) : Prop := ∀ i, i < p.length → p.getD i 0 = -1 ∨ ∃ k x, p.getD i 0 = (k : Nat) ∧ l[k]? = some x ∧ (i : Int) ∈ x.ks
theorem pKids_pin {l : List Nd} {k : Nat} {x : Nd} (hx : l[k]? = some x) : ∀ {ks p q : List Int}, (∀ y ∈ ks, y ∈ x.ks) → pKids k ks p = some q → Pin l p → Pin l q
  | [], p, q, _, h, hu => by cases h; exact hu
  | y :: r, p, q, hs, h, hu => by
    unfold pKids at h
    split at h
    · cases h
    · rename_i hc
      refine pKids_pin hx (fun z hz => hs z (List.mem_cons_of_mem _ hz)) h ?_
      intro i hi
      rw [List.length_set] at hi
      by_cases e : i = y.toNat
      · subst e
        have t : (p.set y.toNat (k : Int)).getD y.toNat 0 = k := by simp [List.getD, hi]
        rw [t]
        refine .inr ⟨k, x, rfl, hx, ?_⟩
        rw [show ((y.toNat : Nat) : Int) = y by omega]
        exact hs y (List.mem_cons_self ..)
      · have t : (p.set y.toNat (k : Int)).getD i 0 = p.getD i 0 := by simp [List.getD, Ne.symm e]
        rw [t]
        exact hu i hi
theorem pAll_pin {L : List Nd} : ∀ (l : List Nd) (k : Nat) (p q : List Int), L.drop k = l → pAll k l p = some q → Pin L p → Pin L q
  | [], k, p, q, _, h, hu => by cases h; exact hu
  | x :: r, k, p, q, hd, h, hu => by
    unfold pAll at h
    cases hq : pKids k x.ks p with
    | none => rw [hq] at h; cases h
    | some p' =>
      rw [hq] at h
      have hx : L[k]? = some x := by
        have t : (L.drop k)[0]? = some x := by rw [hd]; rfl
        rw [List.getElem?_drop] at t
        simpa using t
      refine pAll_pin r (k + 1) p' q ?_ h (pKids_pin hx (fun y hy => hy) hq hu)
      rw [← List.tail_drop, hd]
      rfl
theorem par_pin {l : List Nd} {p : List Int} (h : parR l = some p) : Pin l p :=
  pAll_pin l 0 _ p rfl h (fun i hi => .inl (by
    simp only [List.length_replicate] at hi
    simp [List.getD, hi]))
/-- The last node has no parent. -/
theorem par_last {l : List Nd} {p : List Int} (h : parR l = some p) (h0 : 1 ≤ l.length) : p.getD (l.length - 1) 0 = -1 := by
  obtain ⟨a1, a2, _⟩ := parR_some h
  rcases a2 (l.length - 1) (by omega) with e | e
  · exact e
  · omega
end Go.Proofs.YtkkmeogehapjoaaGreatDoor
