/- Kids by groups are kids by forms: plainly. Kids by groups are kids by forms: kind by kind. Whether a tree is right: the document's own. -/
import Derived.Test.YtkkmeogehapjoaaGreatDoorRA
import Derived.Test.YtkkmeogehapjoaaGreatDoorW1
import Derived.Test.YtkkmeogehapjoaaGreatDoorRX
namespace Go.Proofs.YtkkmeogehapjoaaGreatDoor
section
open Go.RowKit Go.Shelf
theorem isB_range (k : Int) (c : Nat) (h : isB k c = true) : 0 ≤ k ∧ k < 64 := by
  unfold isB tyB stB exB paB at h
  repeat' split at h
  all_goals simp only [Bool.and_eq_true, Bool.or_eq_true, decide_eq_true_eq] at h
  all_goals omega
theorem has_is (g c : Nat) (h : ∀ j : Fin 64, hasB g (j.val : Int) = isB (j.val : Int) c) (k : Int) : hasB g k = isB k c := by
  by_cases hk : 0 ≤ k ∧ k < 64
  · obtain ⟨j, rfl⟩ : ∃ j : Nat, k = j := ⟨k.toNat, by omega⟩
    exact h ⟨j, by omega⟩
  · have e1 : hasB g k = false := by
      rw [← Bool.not_eq_true]
      unfold hasB
      simp only [Bool.and_eq_true, decide_eq_true_eq]
      omega
    have e2 : isB k c = false := by
      rw [← Bool.not_eq_true]
      exact fun h => hk (isB_range k c h)
    rw [e1, e2]
theorem h_I (k : Int) : hasB 28 k = isB k 73 := has_is 28 73 (by decide +kernel) k
theorem h_F (k : Int) : hasB 32 k = isB k 70 := has_is 32 70 (by decide +kernel) k
theorem h_V (k : Int) : hasB 64 k = isB k 86 := has_is 64 86 (by decide +kernel) k
theorem h_M (k : Int) : hasB 128 k = isB k 77 := has_is 128 77 (by decide +kernel) k
theorem h_T (k : Int) : hasB 130048 k = isB k 84 := has_is 130048 84 (by decide +kernel) k
theorem h_B (k : Int) : hasB 1048576 k = isB k 66 := has_is 1048576 66 (by decide +kernel) k
theorem h_S (k : Int) : hasB 266338304 k = isB k 83 := has_is 266338304 83 (by decide +kernel) k
theorem h_E (k : Int) : hasB 140667696185344 k = isB k 69 := has_is 140667696185344 69 (by decide +kernel) k
theorem h_J (k : Int) : hasB 68719476736 k = isB k 74 := has_is 68719476736 74 (by decide +kernel) k
theorem h_A (k : Int) : hasB 140737488355328 k = isB k 65 := has_is 140737488355328 65 (by decide +kernel) k
theorem h_P (k : Int) : hasB 34902897112121344 k = isB k 80 := has_is 34902897112121344 80 (by decide +kernel) k
theorem h_X (k : Int) : hasB 35184373137408 k = isB k 88 := has_is 35184373137408 88 (by decide +kernel) k
theorem kAll_is {g c : Nat} (h : ∀ k, hasB g k = isB k c) (l : List Nd) (ks : List Int) : kAll l ks g = (ks.map (kdK l)).all fun k => isB k c := by
  unfold kAll
  rw [List.all_map]
  congr 1
  funext y
  exact h _
theorem kAre_1 {g : Nat} {c : UInt8} (hc : ¬ c = 42) (h : ∀ k, hasB g k = isB k c.toNat) (l : List Nd) (ks : List Int) : kAre l ks [g] = fitG [c] (ks.map (kdK l)) := by
  cases ks with
  | nil => simp [kAre, fitG, hc]
  | cons y r =>
    cases r with
    | nil => simp [kAre, fitG, hc, h]
    | cons z r => simp [kAre, fitG, hc]
theorem kAre_2 {g1 g2 : Nat} {c1 c2 : UInt8} (hc1 : ¬ c1 = 42) (h1 : ∀ k, hasB g1 k = isB k c1.toNat) (hc2 : ¬ c2 = 42) (h2 : ∀ k, hasB g2 k = isB k c2.toNat) (l : List Nd) (ks : List Int) : kAre l ks [g1, g2] = fitG [c1, c2] (ks.map (kdK l)) := by
  cases ks with
  | nil => simp [kAre, fitG, hc1]
  | cons y r =>
    rw [kAre, kAre_1 hc2 h2, h1]
    simp [fitG, hc1]
theorem kAre_3 {g1 g2 g3 : Nat} {c1 c2 c3 : UInt8} (hc1 : ¬ c1 = 42) (h1 : ∀ k, hasB g1 k = isB k c1.toNat) (hc2 : ¬ c2 = 42) (h2 : ∀ k, hasB g2 k = isB k c2.toNat) (hc3 : ¬ c3 = 42) (h3 : ∀ k, hasB g3 k = isB k c3.toNat) (l : List Nd) (ks : List Int) : kAre l ks [g1, g2, g3] = fitG [c1, c2, c3] (ks.map (kdK l)) := by
  cases ks with
  | nil => simp [kAre, fitG, hc1]
  | cons y r =>
    rw [kAre, kAre_2 hc2 h2 hc3 h3, h1]
    simp [fitG, hc1]
theorem fn_kids (l : List Nd) (v : Int) (ks : List Int) : fnG v (ks.map (kdK l)) = (decide (((ks.take (ks.length - 2)).length : Int) = v) && (kAll l (ks.take (ks.length - 2)) 128 && kAre l (ks.drop (ks.length - 2)) [130048, 1048576])) := by
  unfold fnG
  rw [List.length_map]
  by_cases h2 : ks.length < 2
  · rw [if_pos h2]
    have e : kAre l (ks.drop (ks.length - 2)) [130048, 1048576] = false := by
      rw [← Bool.not_eq_true]
      intro h
      have := kAre_len h
      simp at this
      omega
    rw [e]
    simp
  · rw [if_neg h2]
    have hl : ((ks.take (ks.length - 2)).length : Int) = (ks.length : Int) - 2 := by
      rw [List.length_take]
      omega
    rw [hl, kAll_is h_M]
    obtain ⟨y, z, hd⟩ : ∃ y z, ks.drop (ks.length - 2) = [y, z] := by
      have : (ks.drop (ks.length - 2)).length = 2 := by rw [List.length_drop]; omega
      match ks.drop (ks.length - 2), this with
      | [y, z], _ => exact ⟨y, z, rfl⟩
    have g2 : (ks.map (kdK l)).getD (ks.length - 2) 0 = kdK l y := by
      have t : (ks.drop (ks.length - 2))[0]? = some y := by rw [hd]; rfl
      rw [List.getElem?_drop, Nat.add_zero] at t
      simp [List.getD, List.getElem?_map, t]
    have g1 : (ks.map (kdK l)).getD (ks.length - 1) 0 = kdK l z := by
      have t : (ks.drop (ks.length - 2))[1]? = some z := by rw [hd]; rfl
      rw [List.getElem?_drop, show ks.length - 2 + 1 = ks.length - 1 by omega] at t
      simp [List.getD, List.getElem?_map, t]
    rw [hd, g2, g1, List.map_take]
    simp only [kAre, h_T, h_B, Bool.and_true]
    rw [show decide (v = (ks.length : Int) - 2) = decide ((ks.length : Int) - 2 = v) by rw [Bool.eq_iff_iff]; simp; exact eq_comm]
    congr 1
    generalize (List.take (ks.length - 2) (ks.map (kdK l))).all (fun z => isB z 77) = A
    generalize isB (kdK l y) 84 = B
    generalize isB (kdK l z) 66 = C
    cases A <;> cases B <;> cases C <;> rfl
end
section
open Go.RowKit Go.Shelf
theorem bk_kids (l : List Nd) (v : Int) (ks : List Int) (hv : v = 0 ∨ v = 1) : bkG v (ks.map (kdK l)) = (decide (((ks.drop (ks.length - v.toNat)).length : Int) = v) && (kAll l (ks.take (ks.length - v.toNat)) 266338304 && kAll l (ks.drop (ks.length - v.toNat)) 140667696185344)) := by
  unfold bkG
  rw [List.length_map]
  rcases hv with rfl | rfl
  · rw [if_neg (by decide)]
    have e1 : ks.length - (0 : Int).toNat = ks.length := by simp
    rw [e1, List.drop_length, List.take_length, kAll_is h_S]
    simp [kAll]
  · rw [if_pos rfl]
    have e1 : ks.length - (1 : Int).toNat = ks.length - 1 := by simp
    rw [e1]
    by_cases h0 : ks.length = 0
    · have : ks = [] := List.eq_nil_of_length_eq_zero h0
      subst this
      rfl
    · rw [if_neg h0]
      obtain ⟨y, hd⟩ : ∃ y, ks.drop (ks.length - 1) = [y] := by
        have : (ks.drop (ks.length - 1)).length = 1 := by rw [List.length_drop]; omega
        match ks.drop (ks.length - 1), this with
        | [y], _ => exact ⟨y, rfl⟩
      have g1 : (ks.map (kdK l)).getD (ks.length - 1) 0 = kdK l y := by
        have t : (ks.drop (ks.length - 1))[0]? = some y := by rw [hd]; rfl
        rw [List.getElem?_drop, Nat.add_zero] at t
        simp [List.getD, List.getElem?_map, t]
      rw [hd, g1, kAll_is h_S, kAll_is h_E, List.map_take]
      simp only [List.map_cons, List.map_nil, List.all_cons, List.all_nil, Bool.and_true, List.length_singleton]
      generalize (List.take (ks.length - 1) (ks.map (kdK l))).all (fun z => isB z 83) = A
      generalize isB (kdK l y) 69 = B
      cases A <;> cases B <;> rfl
theorem nil_kids (ks : List Int) (l : List Nd) : fitG [] (ks.map (kdK l)) = ((ks.length : Int) == 0) := by
  cases ks with
  | nil => rfl
  | cons y r =>
    have : (((y :: r).length : Int) == 0) = false := by rw [beq_eq_false_iff_ne]; simp; omega
    rw [this]
    rfl
theorem opt_kids {g : Nat} {c : UInt8} (hc : ¬ c = 42) (h : ∀ k, hasB g k = isB k c.toNat) (l : List Nd) (ks : List Int) : (fitG [] (ks.map (kdK l)) || fitG [c] (ks.map (kdK l))) = if ks.length = 0 then true else kAre l ks [g] := by
  rw [kAre_1 hc h]
  cases ks with
  | nil => rfl
  | cons y r => simp [fitG]
theorem star_kids {g : Nat} {c : UInt8} (h : ∀ k, hasB g k = isB k c.toNat) (l : List Nd) (ks : List Int) : fitG [42, c] (ks.map (kdK l)) = kAll l ks g := by
  rw [kAll_is h]
  rfl
theorem match_kids (l : List Nd) (ks : List Int) : fitG [69, 42, 65] (ks.map (kdK l)) = if ks.length = 0 then false else (kAre l (ks.take 1) [140667696185344] && kAll l (ks.drop 1) 140737488355328) := by
  cases ks with
  | nil => rfl
  | cons y r =>
    rw [if_neg (by simp)]
    rw [kAll_is h_A]
    simp only [List.take_succ_cons, List.take_zero, List.drop_succ_cons, List.drop_zero, kAre, h_E, Bool.and_true, List.map_cons]
    rfl
theorem kinds_of (k : Int) (h : knB k = true) : k = 1 ∨ k = 2 ∨ k = 3 ∨ k = 4 ∨ k = 5 ∨ k = 6 ∨ k = 7 ∨ k = 10 ∨ k = 11 ∨ k = 12 ∨ k = 13 ∨ k = 14 ∨ k = 15 ∨ k = 16 ∨ k = 20 ∨ k = 21 ∨ k = 22 ∨ k = 23 ∨ k = 24 ∨ k = 25 ∨ k = 26 ∨ k = 27 ∨ k = 30 ∨ k = 31 ∨ k = 32 ∨ k = 33 ∨ k = 34 ∨ k = 35 ∨ k = 36 ∨ k = 37 ∨ k = 38 ∨ k = 39 ∨ k = 40 ∨ k = 41 ∨ k = 42 ∨ k = 43 ∨ k = 44 ∨ k = 45 ∨ k = 46 ∨ k = 47 ∨ k = 50 ∨ k = 51 ∨ k = 52 ∨ k = 53 ∨ k = 54 := by
  unfold knB tyB stB paB at h
  simp only [Bool.and_eq_true, Bool.or_eq_true, decide_eq_true_eq] at h
  omega
theorem one_any (f : List UInt8) (p : List UInt8 → Bool) : [f].any p = p f := by simp
theorem two_any (f g : List UInt8) (p : List UInt8 → Bool) : [f, g].any p = (p f || p g) := by simp
theorem fitF_gen (v : Int) (f : List UInt8) (kk : List Int) (h1 : ¬ f = [102, 110]) (h2 : ¬ f = [98, 108, 111, 99, 107]) : fitF v f kk = fitG f kk := by
  unfold fitF
  rw [if_neg h1, if_neg h2]
theorem fitF_fn (v : Int) (kk : List Int) : fitF v [102, 110] kk = fnG v kk := rfl
theorem fitF_bk (v : Int) (kk : List Int) : fitF v [98, 108, 111, 99, 107] kk = bkG v kk := rfl
set_option maxRecDepth 100000 in
set_option maxHeartbeats 4000000 in
theorem forms_kids (l : List Nd) (k v : Int) (ks : List Int) (hv : nuB k v = true) (hk : knB k = true) : ((frm k).any fun f => fitF v f (ks.map (kdK l))) = kidsB l k v ks := by
  rcases kinds_of k hk with rfl | rfl | rfl | rfl | rfl | rfl | rfl | rfl | rfl | rfl | rfl | rfl | rfl | rfl | rfl | rfl | rfl | rfl | rfl | rfl | rfl | rfl | rfl | rfl | rfl | rfl | rfl | rfl | rfl | rfl | rfl | rfl | rfl | rfl | rfl | rfl | rfl | rfl | rfl | rfl | rfl | rfl | rfl | rfl | rfl
  all_goals simp only [frm, kidsB, Int.reduceEq, if_true, if_false, one_any, two_any]
  all_goals (first | rw [fitF_fn] | rw [fitF_bk] | (rw [fitF_gen v _ _ (by decide) (by decide), fitF_gen v _ _ (by decide) (by decide)]) | (rw [fitF_gen v _ _ (by decide) (by decide)]))
  all_goals first
    | exact nil_kids ks l
    | exact fn_kids l v ks
    | exact bk_kids l v ks (by simpa [nuB] using hv)
    | exact (kAre_1 (by decide) h_T l ks).symm
    | exact (kAre_1 (by decide) h_E l ks).symm
    | exact (kAre_2 (by decide) h_E (by decide) h_E l ks).symm
    | exact (kAre_2 (by decide) h_E (by decide) h_B l ks).symm
    | exact (kAre_2 (by decide) h_P (by decide) h_E l ks).symm
    | exact star_kids h_I l ks
    | exact star_kids h_F l ks
    | exact star_kids h_V l ks
    | exact star_kids h_E l ks
    | exact star_kids h_J l ks
    | exact opt_kids (by decide) h_T l ks
    | exact opt_kids (by decide) h_E l ks
    | exact opt_kids (by decide) h_P l ks
    | exact match_kids l ks
    | (rw [kAre_1 (c := 69) (by decide) h_E, kAre_2 (c1 := 84) (c2 := 69) (by decide) h_T (by decide) h_E])
    | (rw [kAre_2 (c1 := 69) (c2 := 66) (by decide) h_E (by decide) h_B, kAre_3 (c1 := 69) (c2 := 66) (c3 := 88) (by decide) h_E (by decide) h_B (by decide) h_X])
end
section
open Go.RowKit Go.Shelf
theorem kids_known (l : List Nd) (k v : Int) (ks : List Int) (h : kidsB l k v ks = true) : knB k = true := by
  by_cases hk : k = 1 ∨ k = 2 ∨ k = 3 ∨ k = 4 ∨ k = 5 ∨ k = 6 ∨ k = 7 ∨ k = 10 ∨ k = 11 ∨ k = 12 ∨ k = 13 ∨ k = 14 ∨ k = 15 ∨ k = 16 ∨ k = 20 ∨ k = 21 ∨ k = 22 ∨ k = 23 ∨ k = 24 ∨ k = 25 ∨ k = 26 ∨ k = 27 ∨ k = 30 ∨ k = 31 ∨ k = 32 ∨ k = 33 ∨ k = 34 ∨ k = 35 ∨ k = 36 ∨ k = 37 ∨ k = 38 ∨ k = 39 ∨ k = 40 ∨ k = 41 ∨ k = 42 ∨ k = 43 ∨ k = 44 ∨ k = 45 ∨ k = 46 ∨ k = 47 ∨ k = 50 ∨ k = 51 ∨ k = 52 ∨ k = 53 ∨ k = 54
  · unfold knB tyB stB paB
    simp only [Bool.and_eq_true, Bool.or_eq_true, decide_eq_true_eq]
    omega
  · exfalso
    simp only [not_or] at hk
    obtain ⟨h1, h2, h3, h4, h5, h6, h7, h10, h11, h12, h13, h14, h15, h16, h20, h21, h22, h23, h24, h25, h26, h27, h30, h31, h32, h33, h34, h35, h36, h37, h38, h39, h40, h41, h42, h43, h44, h45, h46, h47, h50, h51, h52, h53, h54⟩ := hk
    unfold kidsB at h
    rw [if_neg h1, if_neg h2, if_neg h3, if_neg h4, if_neg h5, if_neg h6, if_neg h7, if_neg h10, if_neg h11, if_neg h12, if_neg h13, if_neg h14, if_neg h15, if_neg h16, if_neg h20, if_neg h21, if_neg h22, if_neg h23, if_neg h24, if_neg h25, if_neg h26, if_neg h27, if_neg h30, if_neg h31, if_neg h32, if_neg h33, if_neg h34, if_neg h35, if_neg h36, if_neg h37, if_neg h38, if_neg h39, if_neg h40, if_neg h41, if_neg h42, if_neg h43, if_neg h44, if_neg h45, if_neg h46, if_neg h47, if_neg h50, if_neg h51, if_neg h52, if_neg h53, if_neg h54] at h
    cases h
theorem rn_iff (l : List Nd) (i : Nat) (x : Nd) : rnB l i x = true ↔ nodB l x = true ∧ kinB i x.ks = true := by
  unfold rnB nodB
  simp only [Bool.and_eq_true]
  constructor
  · rintro ⟨h1, h2, h3, h4, h5, h6, h7⟩
    rw [forms_kids l x.k x.v x.ks h3 h1] at h7
    exact ⟨⟨h4, h5, h2, h3, h7⟩, h6⟩
  · rintro ⟨⟨h4, h5, h2, h3, h7⟩, h6⟩
    have h1 := kids_known l x.k x.v x.ks h7
    refine ⟨h1, h2, h3, h4, h5, h6, ?_⟩
    rw [forms_kids l x.k x.v x.ks h3 h1]
    exact h7
/-- All nodes are right by themselves. -/
def AllR (l : List Nd) : Prop := ∀ (i : Nat) x, l[i]? = some x → rnB l i x = true
theorem allR_kin {l : List Nd} (h : AllR l) : Kin l := fun k x hx y hy => by
  have t := ((rn_iff l k x).1 (h k x hx)).2
  have t2 := List.all_eq_true.1 t y hy
  simpa using t2
theorem allR_nod {l : List Nd} (h : AllR l) : l.all (nodB l) = true := by
  rw [List.all_eq_true]
  intro x hx
  obtain ⟨i, hi, rfl⟩ := List.getElem_of_mem hx
  exact ((rn_iff l i l[i]).1 (h i _ (List.getElem?_eq_getElem hi))).1
theorem right_allR {l : List Nd} (h : rightB l = true) : AllR l := by
  obtain ⟨p, hp, _⟩ := right_par h
  intro i x hx
  rw [rn_iff]
  refine ⟨?_, ?_⟩
  · unfold rightB at h
    split at h
    · cases h
    · rw [hp] at h
      simp only [Bool.and_eq_true] at h
      exact List.all_eq_true.1 h.2.2 x (List.mem_of_getElem? hx)
  · unfold kinB
    rw [List.all_eq_true]
    intro y hy
    have t := par_kin hp i x hx y hy
    simpa using t
theorem right_of {l : List Nd} (h : AllR l) (h0 : ¬ (l.length = 0 ∨ 20000 < l.length ∨ ¬ lastK l = 1)) : rightB l = match parR l with
  | none => false
  | some p => !((p.take (l.length - 1)).contains (-1)) && !(decide (400 < Lib.maxOf (depR p))) := by
  unfold rightB
  rw [if_neg h0, allR_nod h]
  cases parR l with
  | none => rfl
  | some p => simp
theorem right_not {l : List Nd} {i : Nat} {x : Nd} (hx : l[i]? = some x) (h : rnB l i x = false) : rightB l = false := by
  rw [← Bool.not_eq_true]
  intro hr
  rw [right_allR hr i x hx] at h
  cases h
end
end Go.Proofs.YtkkmeogehapjoaaGreatDoor
