/- Of which node each is a kid: the program's Parents. Plain facts on parents and kids. Places in the source moved: what a tree is printed as stays. Plain. -/
import Derived.Test.YtkkmeogehapjoaaGreatDoorY8
import Derived.Test.YtkkmeogehapjoaaGreatDoorNX
import Derived.Test.YtkkmeogehapjoaaGreatDoorSA
import Derived.Lib.ItoaLen
namespace Go.Proofs.YtkkmeogehapjoaaGreatDoor
section
open Go.RowKit Go.Shelf
theorem right_len {l : List Nd} (hr : rightB l = true) : 1 ≤ l.length ∧ l.length ≤ 20000 := by
  unfold rightB at hr
  split at hr
  · cases hr
  · omega
theorem right_par {l : List Nd} (hr : rightB l = true) : ∃ p, parR l = some p ∧ (p.take (l.length - 1)).contains (-1) = false := by
  unfold rightB at hr
  split at hr
  · cases hr
  · cases hp : parR l with
    | none => rw [hp] at hr; cases hr
    | some p =>
      rw [hp] at hr
      simp only [Bool.and_eq_true] at hr
      exact ⟨p, rfl, by simpa using hr.1⟩
set_option maxRecDepth 100000 in
set_option maxHeartbeats 4000000 in
theorem parents_right (l : List Nd) (ao : Option Addr) (c : Nat) (w : World) (hT : Tm w) (hl : NdA w ao c l) (hr : rightB l = true) (p : List Int) (hp : parR l = some p) : Calls Tryz.prog 21 #[.agg #[.slice ao l.length c]] w fun e w' => Below w.heap.size w w' ∧ ∃ g, w.heap.size ≤ g ∧ Blk w' g p ∧ e = .returned (.tuple #[.slice (some ⟨g, 0, none⟩) l.length l.length, .int .i64 0]) := by
  have h01 := right_len hr
  have hcn : (p.take (l.length - 1)).contains (-1) = false := by
    obtain ⟨p', h1, h2⟩ := right_par hr
    rw [hp] at h1
    cases h1
    exact h2
  have H11 : Hid (∀ W, Below w.heap.size w W → Calls Tryz.prog 11 #[.agg #[.slice ao l.length c]] W fun e w' => e = .returned (.int .i64 0) ∧ Below W.heap.size W w') := fun W hW => by
    have t := check11 l ao c W (hT.below hW) (hl.below hW)
    rw [if_pos hr] at t
    exact t
  have H41 : Hid (∀ W, Below w.heap.size w W → Calls Tryz.prog 41 #[.slice ao l.length c] W fun e w' => Below W.heap.size W w' ∧ ∃ g, W.heap.size ≤ g ∧ Blk w' g p ∧ e = .returned (.tuple #[.slice (some ⟨g, 0, none⟩) l.length l.length, .bool true])) := fun W hW => by
    refine (parents41 l ao c W (hl.below hW) h01.1 h01.2).mono ?_
    rintro e w' ⟨h1, h2⟩
    rw [hp] at h2
    obtain ⟨g, g1, g2, g3, g4⟩ := h2
    rw [hcn] at g4
    exact ⟨h1, g, g1, g3, g4⟩
  have h1 := hl.1
  have h2 := hl.2.1
  generalize l.length = n at *
  clear hT hl hr hp hcn h01
  go_enter Tryz.func21, Tryz.ntmps21
  go_wp2_with fail
  refine (H11.out _ (below_cells _ _ _)).mono ?_
  rintro e w1 ⟨rfl, hb⟩
  have HB1 : Hid (Below w.heap.size w w1) := (below_cells w _ _).trans (hb.mono (by simp))
  have d0 := (bcell hb).1 w.heap.size 0 (by simp)
  simp at d0
  clear hb H11
  go_wp2_with fail
  refine (H41.out _ HB1.out).mono ?_
  rintro e w2 ⟨hb, g, hg, hbk, rfl⟩
  have HB2 : Hid (Below w.heap.size w w2) := HB1.out.trans (hb.mono HB1.out.size)
  have HK : Hid (w.heap.size ≤ g ∧ Blk w2 g p) := ⟨by have := HB1.out.size; omega, hbk⟩
  clear hb hbk hg d0
  go_wp2
  go_ret2
  exact ⟨HB2.out, g, HK.out.1, HK.out.2, rfl⟩
set_option maxRecDepth 100000 in
set_option maxHeartbeats 4000000 in
theorem parents_wrong (l : List Nd) (ao : Option Addr) (c : Nat) (w : World) (hT : Tm w) (hl : NdA w ao c l) (hr : rightB l = false) : Calls Tryz.prog 21 #[.agg #[.slice ao l.length c]] w fun e w' => Below w.heap.size w w' ∧ e = .returned (.tuple #[.slice none 0 0, .int .i64 3]) := by
  have H11 : Hid (∀ W, Below w.heap.size w W → Calls Tryz.prog 11 #[.agg #[.slice ao l.length c]] W fun e w' => e = .returned (.int .i64 3) ∧ Below W.heap.size W w') := fun W hW => by
    have t := check11 l ao c W (hT.below hW) (hl.below hW)
    rw [if_neg (by simp [hr])] at t
    exact t
  have h1 := hl.1
  have h2 := hl.2.1
  generalize l.length = n at *
  clear hT hl hr
  go_enter Tryz.func21, Tryz.ntmps21
  go_wp2_with fail
  refine (H11.out _ (below_cells _ _ _)).mono ?_
  rintro e w1 ⟨rfl, hb⟩
  have HB1 : Hid (Below w.heap.size w w1) := (below_cells w _ _).trans (hb.mono (by simp))
  clear hb H11
  go_wp2
  go_ret2
  exact ⟨HB1.out, rfl⟩
/-- Each kid stands ahead of its node. -/
def Kin (l : List Nd) : Prop := ∀ (k : Nat) x, l[k]? = some x → ∀ y ∈ x.ks, 0 ≤ y ∧ y < (k : Int)
theorem pAll_kin : ∀ (l : List Nd) (k : Nat) (p q : List Int), pAll k l p = some q → ∀ (j : Nat) x, l[j]? = some x → ∀ y ∈ x.ks, 0 ≤ y ∧ y < ((k + j : Nat) : Int)
  | [], _, _, _, _, j, x, hx => by simp at hx
  | z :: r, k, p, q, h, j, x, hx => by
    unfold pAll at h
    cases hq : pKids k z.ks p with
    | none => rw [hq] at h; cases h
    | some p' =>
      rw [hq] at h
      cases j with
      | zero =>
        simp at hx
        subst hx
        intro y hy
        have t := pKids_inn hq y hy
        omega
      | succ j =>
        intro y hy
        have t := pAll_kin r (k + 1) p' q h j x (by simpa using hx) y hy
        omega
theorem par_kin {l : List Nd} {p : List Int} (h : parR l = some p) : Kin l := fun k x hx y hy => by
  have t := pAll_kin l 0 _ p h k x hx y hy
  omega
/-- Each entry is none, or a node that has it as a kid. -/
def Pin (l : List Nd) (p : List Int) : Prop := ∀ i, i < p.length → p.getD i 0 = -1 ∨ ∃ k x, p.getD i 0 = (k : Nat) ∧ l[k]? = some x ∧ (i : Int) ∈ x.ks
theorem pKids_pin {l : List Nd} {k : Nat} {x : Nd} (hx : l[k]? = some x) : ∀ {ks p q : List Int}, (∀ y ∈ ks, y ∈ x.ks) → pKids k ks p = some q → Pin l p → Pin l q
  | [], p, q, _, h, hu => by cases h; exact hu
  | y :: r, p, q, hs, h, hu => by
    unfold pKids at h
    split at h
    · cases h
    · rename_i hc
      refine pKids_pin hx (fun z hz => hs z (List.mem_cons_of_mem _ hz)) h ?_
      intro i hi
      rw [List.length_set] at hi
      by_cases e : i = y.toNat
      · subst e
        have t : (p.set y.toNat (k : Int)).getD y.toNat 0 = k := by simp [List.getD, hi]
        rw [t]
        refine .inr ⟨k, x, rfl, hx, ?_⟩
        rw [show ((y.toNat : Nat) : Int) = y by omega]
        exact hs y (List.mem_cons_self ..)
      · have t : (p.set y.toNat (k : Int)).getD i 0 = p.getD i 0 := by simp [List.getD, Ne.symm e]
        rw [t]
        exact hu i hi
theorem pAll_pin {L : List Nd} : ∀ (l : List Nd) (k : Nat) (p q : List Int), L.drop k = l → pAll k l p = some q → Pin L p → Pin L q
  | [], k, p, q, _, h, hu => by cases h; exact hu
  | x :: r, k, p, q, hd, h, hu => by
    unfold pAll at h
    cases hq : pKids k x.ks p with
    | none => rw [hq] at h; cases h
    | some p' =>
      rw [hq] at h
      have hx : L[k]? = some x := by
        have t : (L.drop k)[0]? = some x := by rw [hd]; rfl
        rw [List.getElem?_drop] at t
        simpa using t
      refine pAll_pin r (k + 1) p' q ?_ h (pKids_pin hx (fun y hy => hy) hq hu)
      rw [← List.tail_drop, hd]
      rfl
theorem par_pin {l : List Nd} {p : List Int} (h : parR l = some p) : Pin l p :=
  pAll_pin l 0 _ p rfl h (fun i hi => .inl (by
    simp only [List.length_replicate] at hi
    simp [List.getD, hi]))
/-- The last node has no parent. -/
theorem par_last {l : List Nd} {p : List Int} (h : parR l = some p) (h0 : 1 ≤ l.length) : p.getD (l.length - 1) 0 = -1 := by
  obtain ⟨a1, a2, _⟩ := parR_some h
  rcases a2 (l.length - 1) (by omega) with e | e
  · exact e
  · omega
end
section
open Go.RowKit Go.Shelf
/-- A node whose places are moved. -/
def mv (d : Int) (x : Nd) : Nd := ⟨x.k, x.nm, x.v, x.ka, x.kc, x.ks, IntKind.i64.wrap (x.fr + d), IntKind.i64.wrap (x.en + d)⟩
theorem kdK_mv (d : Int) (l : List Nd) (y : Int) : kdK (l.map (mv d)) y = kdK l y := by
  unfold kdK
  rw [List.getElem?_map]
  cases l[y.toNat]? <;> rfl
theorem prt_mv (d : Int) (l : List Nd) (x : Nd) : prt (l.map (mv d)) (mv d x) = prt l x := by
  show prtK (l.map (mv d)) (mv d x) x.k.toNat = prtK l x x.k.toNat
  have e : prtK (l.map (mv d)) (mv d x) 2 = prtK l x 2 := by
    show _ ++ ((if kdK (l.map (mv d)) (kidN x (x.ks.length - 2)) = 12 then [] else _) ++ _) = _
    rw [kdK_mv]
    rfl
  generalize x.k.toNat = K
  by_cases h : K = 2
  · subst h; exact e
  · clear e
    unfold prtK
    split
    all_goals first | rfl | exact absurd rfl h
theorem ntF_mv (d : Int) (l : List Nd) : ∀ f k, ntF (l.map (mv d)) f k = ntF l f k
  | 0, _ => rfl
  | f + 1, k => by
    simp only [ntF, List.getElem?_map]
    cases l[k]? with
    | none => rfl
    | some x =>
      simp only [Option.map_some]
      rw [prt_mv]
      exact psT_cong _ (fun y _ => ntF_mv d l f y.toNat) (kdK_mv d l)
theorem ntR_mv (d : Int) (l : List Nd) (k : Nat) : ntR (l.map (mv d)) k = ntR l k := ntF_mv d l _ k
theorem pAll_mv (d : Int) : ∀ (l : List Nd) (k : Nat) (p : List Int), pAll k (l.map (mv d)) p = pAll k l p
  | [], _, _ => rfl
  | x :: r, k, p => by
    simp only [List.map_cons, pAll]
    show (match pKids k x.ks p with | none => none | some p' => pAll (k + 1) (r.map (mv d)) p') = _
    cases pKids k x.ks p with
    | none => rfl
    | some p' => exact pAll_mv d r (k + 1) p'
theorem parR_mv (d : Int) (l : List Nd) : parR (l.map (mv d)) = parR l := by
  unfold parR
  rw [pAll_mv, List.length_map]
theorem kAll_mv (d : Int) (l : List Nd) (ks : List Int) (g : Nat) : kAll (l.map (mv d)) ks g = kAll l ks g := by
  unfold kAll
  simp only [kdK_mv]
theorem kAre_mv (d : Int) (l : List Nd) : ∀ (ks : List Int) (gs : List Nat), kAre (l.map (mv d)) ks gs = kAre l ks gs
  | [], [] => rfl
  | [], _ :: _ => rfl
  | _ :: _, [] => rfl
  | y :: ks, g :: gs => by simp only [kAre, kdK_mv, kAre_mv d l ks gs]
theorem kidsB_mv (d : Int) (l : List Nd) (k v : Int) (ks : List Int) : kidsB (l.map (mv d)) k v ks = kidsB l k v ks := by
  unfold kidsB
  simp only [kAll_mv, kAre_mv]
theorem wrap_far {z : Int} (h0 : 0 ≤ z) (h1 : z ≤ 1099513724928) : IntKind.i64.wrap z = z := by
  simp [IntKind.wrap, IntKind.bits, IntKind.signed]
  omega
theorem nodB_mv {d : Int} {l : List Nd} {x : Nd} (h : nodB l x = true) (h0 : 0 ≤ d) (h1 : d ≤ 1048576) (hf : x.fr ≤ 1099511627776) (he : x.en ≤ 1099511627776) : nodB (l.map (mv d)) (mv d x) = true := by
  unfold nodB at h ⊢
  simp only [Bool.and_eq_true, Bool.not_eq_true', decide_eq_false_iff_not] at h ⊢
  obtain ⟨a, b, c, e, f⟩ := h
  have w1 : IntKind.i64.wrap (x.fr + d) = x.fr + d := wrap_far (by omega) (by omega)
  have w2 : IntKind.i64.wrap (x.en + d) = x.en + d := wrap_far (by omega) (by omega)
  refine ⟨?_, ?_, c, e, ?_⟩
  · show ¬ IntKind.i64.wrap (x.fr + d) < 0
    omega
  · show ¬ IntKind.i64.wrap (x.en + d) < IntKind.i64.wrap (x.fr + d)
    omega
  · exact (kidsB_mv d l x.k x.v x.ks).trans f
theorem right_mv {d : Int} {l : List Nd} (h : rightB l = true) (h0 : 0 ≤ d) (h1 : d ≤ 1048576) (hf : ∀ x ∈ l, x.fr ≤ 1099511627776 ∧ x.en ≤ 1099511627776) : rightB (l.map (mv d)) = true := by
  unfold rightB at h ⊢
  have e : lastK (l.map (mv d)) = lastK l := by unfold lastK; rw [kdK_mv, List.length_map]
  rw [List.length_map, e, parR_mv]
  split at h
  · cases h
  · rename_i hc
    rw [if_neg hc]
    cases hp : parR l with
    | none => rw [hp] at h; cases h
    | some p =>
      rw [hp] at h
      simp only [Bool.and_eq_true] at h ⊢
      refine ⟨h.1, h.2.1, ?_⟩
      rw [List.all_eq_true]
      intro y hy
      obtain ⟨x, hx, rfl⟩ := List.mem_map.1 hy
      exact nodB_mv (List.all_eq_true.1 h.2.2 x hx) h0 h1 (hf x hx).1 (hf x hx).2
theorem nsEq_mv (d : Int) : ∀ l : List Nd, nsEq l (l.map (mv d)) = true
  | [] => rfl
  | x :: r => by
    have t := nsEq_mv d r
    have e : ndEq x (mv d x) = true := ndEq_refl x
    simp only [List.map_cons, nsEq, e, t, Bool.and_self]
/-- What Print tells. -/
def prS (l : List Nd) : List UInt8 := if rightB l = true then run [] (ntR l (l.length - 1)) else []
def prE (l : List Nd) : Int := if rightB l = true then 0 else 3
theorem prS_mv {d : Int} {l : List Nd} (h : rightB l = true) (h2 : rightB (l.map (mv d)) = true) : prS (l.map (mv d)) = prS l := by
  unfold prS
  rw [if_pos h, if_pos h2, ntR_mv, List.length_map]
/-- A right tree's nodes. -/
theorem right_nod {l : List Nd} (h : rightB l = true) {x : Nd} (hx : x ∈ l) : nodB l x = true := by
  unfold rightB at h
  split at h
  · cases h
  · obtain ⟨p, hp, _⟩ : ∃ p, parR l = some p ∧ True := by
      cases hp : parR l with
      | none => rw [hp] at h; cases h
      | some p => exact ⟨p, rfl, trivial⟩
    rw [hp] at h
    simp only [Bool.and_eq_true] at h
    exact List.all_eq_true.1 h.2.2 x hx
theorem right_ar {l : List Nd} (h : rightB l = true) {x : Nd} (hx : x ∈ l) : arB x.k.toNat x.ks.length = true ∧ 0 ≤ x.k := by
  have t := right_nod h hx
  unfold nodB at t
  simp only [Bool.and_eq_true] at t
  exact ar_of t.2.2.2.2
theorem right_kin {l : List Nd} (h : rightB l = true) : Kin l := by
  obtain ⟨p, hp, _⟩ := right_par h
  exact par_kin hp
theorem right_kids {l : List Nd} (h : rightB l = true) {k : Nat} {x : Nd} (hx : l[k]? = some x) : KidsIn (prt l x) x.ks :=
  prt_kids (right_ar h (List.mem_of_getElem? hx)).1 (fun y hy => (right_kin h k x hx y hy).1)
theorem right_pkin {l : List Nd} (h : rightB l = true) : PKin l := fun k x hx y hy => right_kin h k x hx y ((right_kids h hx).1 y hy)
theorem trim_len (a b : List UInt8) : (Lib.trimPrefix a b).length ≤ a.length := by
  unfold Lib.trimPrefix
  split
  · simp
  · exact Nat.le_refl _
theorem cut_sum (l m : List UInt8) : (Lib.cut l m).1.length + (Lib.cut l m).2.1.length ≤ l.length := by
  unfold Lib.cut
  split
  · simp only [List.length_take, List.length_drop]; omega
  · simp
/-- How long a printed tree is. -/
theorem prS_len {w : World} {ao : Option Addr} {c : Nat} {l : List Nd} (hl : NdA w ao c l) (h : rightB l = true) : (run [] (ntR l (l.length - 1))).length ≤ 140737488355328 := by
  obtain ⟨p, hp, _⟩ := right_par h
  have h01 := right_len h
  have t := root_len (C := 4294967280 + 106) hp h01.1 (par_last hp h01.1) (right_pkin h) (fun i x hx => by
    have hm := List.mem_of_getElem? hx
    have ho := hl.2.2.1 x hm
    have hi := Lib.itoa_length_le x.v ho.v0 ho.v1
    have hr := prt_room (l := l) (x := x) hi (cut_sum _ _) (Nat.le_trans (trim_len _ _) hi)
    have hn : x.nm.data.toList.length ≤ 4294967280 := by
      have := ho.nm
      rw [Lib.size_eq] at this
      exact this
    exact ⟨by omega, right_kids h hx⟩)
  have t2 : l.length * (4294967280 + 106) ≤ 20000 * (4294967280 + 106) := Nat.mul_le_mul_right _ h01.2
  omega
end
end Go.Proofs.YtkkmeogehapjoaaGreatDoor
