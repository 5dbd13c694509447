/- Kids by groups are kids by forms: plainly. Kids by groups are kids by forms: kind by kind. Of which node each is a kid, and how deep: the document's own. How deep: the document's own. Whether a tree is right: the document's own. -/
import Derived.Test.YtkkmeogehapjoaaGreatDoorRV
import Derived.Test.YtkkmeogehapjoaaGreatDoorW1
import Derived.Test.YtkkmeogehapjoaaGreatDoorNE
namespace Go.Proofs.YtkkmeogehapjoaaGreatDoor
section
open Go.RowKit Go.Shelf
theorem isB_range (k : Int) (c : Nat) (h : isB k c = true) : 0 ≤ k ∧ k < 64 := by
  unfold isB tyB stB exB paB at h
  repeat' split at h
  all_goals simp only [Bool.and_eq_true, Bool.or_eq_true, decide_eq_true_eq] at h
  all_goals omega
theorem has_is (g c : Nat) (h : ∀ j : Fin 64, hasB g (j.val : Int) = isB (j.val : Int) c) (k : Int) : hasB g k = isB k c := by
  by_cases hk : 0 ≤ k ∧ k < 64
  · obtain ⟨j, rfl⟩ : ∃ j : Nat, k = j := ⟨k.toNat, by omega⟩
    exact h ⟨j, by omega⟩
  · have e1 : hasB g k = false := by
      rw [← Bool.not_eq_true]
      unfold hasB
      simp only [Bool.and_eq_true, decide_eq_true_eq]
      omega
    have e2 : isB k c = false := by
      rw [← Bool.not_eq_true]
      exact fun h => hk (isB_range k c h)
    rw [e1, e2]
theorem h_I (k : Int) : hasB 28 k = isB k 73 := has_is 28 73 (by decide +kernel) k
theorem h_F (k : Int) : hasB 32 k = isB k 70 := has_is 32 70 (by decide +kernel) k
theorem h_V (k : Int) : hasB 64 k = isB k 86 := has_is 64 86 (by decide +kernel) k
theorem h_M (k : Int) : hasB 128 k = isB k 77 := has_is 128 77 (by decide +kernel) k
theorem h_T (k : Int) : hasB 130048 k = isB k 84 := has_is 130048 84 (by decide +kernel) k
theorem h_B (k : Int) : hasB 1048576 k = isB k 66 := has_is 1048576 66 (by decide +kernel) k
theorem h_S (k : Int) : hasB 266338304 k = isB k 83 := has_is 266338304 83 (by decide +kernel) k
theorem h_E (k : Int) : hasB 140667696185344 k = isB k 69 := has_is 140667696185344 69 (by decide +kernel) k
theorem h_J (k : Int) : hasB 68719476736 k = isB k 74 := has_is 68719476736 74 (by decide +kernel) k
theorem h_A (k : Int) : hasB 140737488355328 k = isB k 65 := has_is 140737488355328 65 (by decide +kernel) k
theorem h_P (k : Int) : hasB 34902897112121344 k = isB k 80 := has_is 34902897112121344 80 (by decide +kernel) k
theorem h_X (k : Int) : hasB 35184373137408 k = isB k 88 := has_is 35184373137408 88 (by decide +kernel) k
theorem kAll_is {g c : Nat} (h : ∀ k, hasB g k = isB k c) (l : List Nd) (ks : List Int) : kAll l ks g = (ks.map (kdK l)).all fun k => isB k c := by
  unfold kAll
  rw [List.all_map]
  congr 1
  funext y
  exact h _
theorem kAre_1 {g : Nat} {c : UInt8} (hc : ¬ c = 42) (h : ∀ k, hasB g k = isB k c.toNat) (l : List Nd) (ks : List Int) : kAre l ks [g] = fitG [c] (ks.map (kdK l)) := by
  cases ks with
  | nil => simp [kAre, fitG, hc]
  | cons y r =>
    cases r with
    | nil => simp [kAre, fitG, hc, h]
    | cons z r => simp [kAre, fitG, hc]
theorem kAre_2 {g1 g2 : Nat} {c1 c2 : UInt8} (hc1 : ¬ c1 = 42) (h1 : ∀ k, hasB g1 k = isB k c1.toNat) (hc2 : ¬ c2 = 42) (h2 : ∀ k, hasB g2 k = isB k c2.toNat) (l : List Nd) (ks : List Int) : kAre l ks [g1, g2] = fitG [c1, c2] (ks.map (kdK l)) := by
  cases ks with
  | nil => simp [kAre, fitG, hc1]
  | cons y r =>
    rw [kAre, kAre_1 hc2 h2, h1]
    simp [fitG, hc1]
theorem kAre_3 {g1 g2 g3 : Nat} {c1 c2 c3 : UInt8} (hc1 : ¬ c1 = 42) (h1 : ∀ k, hasB g1 k = isB k c1.toNat) (hc2 : ¬ c2 = 42) (h2 : ∀ k, hasB g2 k = isB k c2.toNat) (hc3 : ¬ c3 = 42) (h3 : ∀ k, hasB g3 k = isB k c3.toNat) (l : List Nd) (ks : List Int) : kAre l ks [g1, g2, g3] = fitG [c1, c2, c3] (ks.map (kdK l)) := by
  cases ks with
  | nil => simp [kAre, fitG, hc1]
  | cons y r =>
    rw [kAre, kAre_2 hc2 h2 hc3 h3, h1]
    simp [fitG, hc1]
theorem fn_kids (l : List Nd) (v : Int) (ks : List Int) : fnG v (ks.map (kdK l)) = (decide (((ks.take (ks.length - 2)).length : Int) = v) && (kAll l (ks.take (ks.length - 2)) 128 && kAre l (ks.drop (ks.length - 2)) [130048, 1048576])) := by
  unfold fnG
  rw [List.length_map]
  by_cases h2 : ks.length < 2
  · rw [if_pos h2]
    have e : kAre l (ks.drop (ks.length - 2)) [130048, 1048576] = false := by
      rw [← Bool.not_eq_true]
      intro h
      have := kAre_len h
      simp at this
      omega
    rw [e]
    simp
  · rw [if_neg h2]
    have hl : ((ks.take (ks.length - 2)).length : Int) = (ks.length : Int) - 2 := by
      rw [List.length_take]
      omega
    rw [hl, kAll_is h_M]
    obtain ⟨y, z, hd⟩ : ∃ y z, ks.drop (ks.length - 2) = [y, z] := by
      have : (ks.drop (ks.length - 2)).length = 2 := by rw [List.length_drop]; omega
      match ks.drop (ks.length - 2), this with
      | [y, z], _ => exact ⟨y, z, rfl⟩
    have g2 : (ks.map (kdK l)).getD (ks.length - 2) 0 = kdK l y := by
      have t : (ks.drop (ks.length - 2))[0]? = some y := by rw [hd]; rfl
      rw [List.getElem?_drop, Nat.add_zero] at t
      simp [List.getD, List.getElem?_map, t]
    have g1 : (ks.map (kdK l)).getD (ks.length - 1) 0 = kdK l z := by
      have t : (ks.drop (ks.length - 2))[1]? = some z := by rw [hd]; rfl
      rw [List.getElem?_drop, show ks.length - 2 + 1 = ks.length - 1 by omega] at t
      simp [List.getD, List.getElem?_map, t]
    rw [hd, g2, g1, List.map_take]
    simp only [kAre, h_T, h_B, Bool.and_true]
    rw [show decide (v = (ks.length : Int) - 2) = decide ((ks.length : Int) - 2 = v) by rw [Bool.eq_iff_iff]; simp; exact eq_comm]
    congr 1
    generalize (List.take (ks.length - 2) (ks.map (kdK l))).all (fun z => isB z 77) = A
    generalize isB (kdK l y) 84 = B
    generalize isB (kdK l z) 66 = C
    cases A <;> cases B <;> cases C <;> rfl
end
section
open Go.RowKit Go.Shelf
theorem bk_kids (l : List Nd) (v : Int) (ks : List Int) (hv : v = 0 ∨ v = 1) : bkG v (ks.map (kdK l)) = (decide (((ks.drop (ks.length - v.toNat)).length : Int) = v) && (kAll l (ks.take (ks.length - v.toNat)) 266338304 && kAll l (ks.drop (ks.length - v.toNat)) 140667696185344)) := by
  unfold bkG
  rw [List.length_map]
  rcases hv with rfl | rfl
  · rw [if_neg (by decide)]
    have e1 : ks.length - (0 : Int).toNat = ks.length := by simp
    rw [e1, List.drop_length, List.take_length, kAll_is h_S]
    simp [kAll]
  · rw [if_pos rfl]
    have e1 : ks.length - (1 : Int).toNat = ks.length - 1 := by simp
    rw [e1]
    by_cases h0 : ks.length = 0
    · have : ks = [] := List.eq_nil_of_length_eq_zero h0
      subst this
      rfl
    · rw [if_neg h0]
      obtain ⟨y, hd⟩ : ∃ y, ks.drop (ks.length - 1) = [y] := by
        have : (ks.drop (ks.length - 1)).length = 1 := by rw [List.length_drop]; omega
        match ks.drop (ks.length - 1), this with
        | [y], _ => exact ⟨y, rfl⟩
      have g1 : (ks.map (kdK l)).getD (ks.length - 1) 0 = kdK l y := by
        have t : (ks.drop (ks.length - 1))[0]? = some y := by rw [hd]; rfl
        rw [List.getElem?_drop, Nat.add_zero] at t
        simp [List.getD, List.getElem?_map, t]
      rw [hd, g1, kAll_is h_S, kAll_is h_E, List.map_take]
      simp only [List.map_cons, List.map_nil, List.all_cons, List.all_nil, Bool.and_true, List.length_singleton]
      generalize (List.take (ks.length - 1) (ks.map (kdK l))).all (fun z => isB z 83) = A
      generalize isB (kdK l y) 69 = B
      cases A <;> cases B <;> rfl
theorem nil_kids (ks : List Int) (l : List Nd) : fitG [] (ks.map (kdK l)) = ((ks.length : Int) == 0) := by
  cases ks with
  | nil => rfl
  | cons y r =>
    have : (((y :: r).length : Int) == 0) = false := by rw [beq_eq_false_iff_ne]; simp; omega
    rw [this]
    rfl
theorem opt_kids {g : Nat} {c : UInt8} (hc : ¬ c = 42) (h : ∀ k, hasB g k = isB k c.toNat) (l : List Nd) (ks : List Int) : (fitG [] (ks.map (kdK l)) || fitG [c] (ks.map (kdK l))) = if ks.length = 0 then true else kAre l ks [g] := by
  rw [kAre_1 hc h]
  cases ks with
  | nil => rfl
  | cons y r => simp [fitG]
theorem star_kids {g : Nat} {c : UInt8} (h : ∀ k, hasB g k = isB k c.toNat) (l : List Nd) (ks : List Int) : fitG [42, c] (ks.map (kdK l)) = kAll l ks g := by
  rw [kAll_is h]
  rfl
theorem match_kids (l : List Nd) (ks : List Int) : fitG [69, 42, 65] (ks.map (kdK l)) = if ks.length = 0 then false else (kAre l (ks.take 1) [140667696185344] && kAll l (ks.drop 1) 140737488355328) := by
  cases ks with
  | nil => rfl
  | cons y r =>
    rw [if_neg (by simp)]
    rw [kAll_is h_A]
    simp only [List.take_succ_cons, List.take_zero, List.drop_succ_cons, List.drop_zero, kAre, h_E, Bool.and_true, List.map_cons]
    rfl
theorem kinds_of (k : Int) (h : knB k = true) : k = 1 ∨ k = 2 ∨ k = 3 ∨ k = 4 ∨ k = 5 ∨ k = 6 ∨ k = 7 ∨ k = 10 ∨ k = 11 ∨ k = 12 ∨ k = 13 ∨ k = 14 ∨ k = 15 ∨ k = 16 ∨ k = 20 ∨ k = 21 ∨ k = 22 ∨ k = 23 ∨ k = 24 ∨ k = 25 ∨ k = 26 ∨ k = 27 ∨ k = 30 ∨ k = 31 ∨ k = 32 ∨ k = 33 ∨ k = 34 ∨ k = 35 ∨ k = 36 ∨ k = 37 ∨ k = 38 ∨ k = 39 ∨ k = 40 ∨ k = 41 ∨ k = 42 ∨ k = 43 ∨ k = 44 ∨ k = 45 ∨ k = 46 ∨ k = 47 ∨ k = 50 ∨ k = 51 ∨ k = 52 ∨ k = 53 ∨ k = 54 := by
  unfold knB tyB stB paB at h
  simp only [Bool.and_eq_true, Bool.or_eq_true, decide_eq_true_eq] at h
  omega
theorem one_any (f : List UInt8) (p : List UInt8 → Bool) : [f].any p = p f := by simp
theorem two_any (f g : List UInt8) (p : List UInt8 → Bool) : [f, g].any p = (p f || p g) := by simp
theorem fitF_gen (v : Int) (f : List UInt8) (kk : List Int) (h1 : ¬ f = [102, 110]) (h2 : ¬ f = [98, 108, 111, 99, 107]) : fitF v f kk = fitG f kk := by
  unfold fitF
  rw [if_neg h1, if_neg h2]
theorem fitF_fn (v : Int) (kk : List Int) : fitF v [102, 110] kk = fnG v kk := rfl
theorem fitF_bk (v : Int) (kk : List Int) : fitF v [98, 108, 111, 99, 107] kk = bkG v kk := rfl
set_option maxRecDepth 100000 in
set_option maxHeartbeats 4000000 in
theorem forms_kids (l : List Nd) (k v : Int) (ks : List Int) (hv : nuB k v = true) (hk : knB k = true) : ((frm k).any fun f => fitF v f (ks.map (kdK l))) = kidsB l k v ks := by
  rcases kinds_of k hk with rfl | rfl | rfl | rfl | rfl | rfl | rfl | rfl | rfl | rfl | rfl | rfl | rfl | rfl | rfl | rfl | rfl | rfl | rfl | rfl | rfl | rfl | rfl | rfl | rfl | rfl | rfl | rfl | rfl | rfl | rfl | rfl | rfl | rfl | rfl | rfl | rfl | rfl | rfl | rfl | rfl | rfl | rfl | rfl | rfl
  all_goals simp only [frm, kidsB, Int.reduceEq, if_true, if_false, one_any, two_any]
  all_goals (first | rw [fitF_fn] | rw [fitF_bk] | (rw [fitF_gen v _ _ (by decide) (by decide), fitF_gen v _ _ (by decide) (by decide)]) | (rw [fitF_gen v _ _ (by decide) (by decide)]))
  all_goals first
    | exact nil_kids ks l
    | exact fn_kids l v ks
    | exact bk_kids l v ks (by simpa [nuB] using hv)
    | exact (kAre_1 (by decide) h_T l ks).symm
    | exact (kAre_1 (by decide) h_E l ks).symm
    | exact (kAre_2 (by decide) h_E (by decide) h_E l ks).symm
    | exact (kAre_2 (by decide) h_E (by decide) h_B l ks).symm
    | exact (kAre_2 (by decide) h_P (by decide) h_E l ks).symm
    | exact star_kids h_I l ks
    | exact star_kids h_F l ks
    | exact star_kids h_V l ks
    | exact star_kids h_E l ks
    | exact star_kids h_J l ks
    | exact opt_kids (by decide) h_T l ks
    | exact opt_kids (by decide) h_E l ks
    | exact opt_kids (by decide) h_P l ks
    | exact match_kids l ks
    | (rw [kAre_1 (c := 69) (by decide) h_E, kAre_2 (c1 := 84) (c2 := 69) (by decide) h_T (by decide) h_E])
    | (rw [kAre_2 (c1 := 69) (c2 := 66) (by decide) h_E (by decide) h_B, kAre_3 (c1 := 69) (c2 := 66) (c3 := 88) (by decide) h_E (by decide) h_B (by decide) h_X])
end
section
open Go.RowKit Go.Shelf
/-- What is told of the nodes' parents. -/
def rpQ (l : List Nd) (w : World) (e : Ending) (w' : World) : Prop := Below w.heap.size w w' ∧ match parR l with
  | none => e = .returned (.tuple #[.slice none 0 0, .bool false])
  | some p => if (p.take (l.length - 1)).contains (-1) = true then e = .returned (.tuple #[.slice none 0 0, .bool false]) else ∃ g, w.heap.size ≤ g ∧ Blk w' g p ∧ e = .returned (.tuple #[.slice (some ⟨g, 0, none⟩) l.length l.length, .bool true])
set_option maxRecDepth 100000 in
set_option maxHeartbeats 4000000 in
theorem parents42 (l : List Nd) (ao : Option Addr) (c : Nat) (w : World) (hl : NdA w ao c l) (hK : Kin l) (h0 : 1 ≤ l.length) (h1 : l.length ≤ 20000) : Calls Tryz.prog 42 #[.agg #[.slice ao l.length c]] w fun e w' => rpQ l w e w' := by
  have HL : Hid (NdA w ao c l) := hl
  have HKn : Hid (Kin l) := hK
  obtain ⟨i0, hi, hz0, hz1, hz2⟩ := info_parts info3
  have HI : Hid (Tryz.prog.info? 3 = some i0 ∧ i0.zero = some (.int .i64 0) ∧ i0.size = 1 ∧ i0.bytes = 8) := ⟨hi, hz0, hz1, hz2⟩
  clear hi hz0 hz1 hz2
  obtain ⟨n, hn⟩ : ∃ n, n = l.length := ⟨_, rfl⟩
  have HF1 : Hid (∀ w', parR l = none → Below w.heap.size w w' → rpQ l w (.returned (.tuple #[.slice none 0 0, .bool false])) w') := fun w' h hb => by
    refine ⟨hb, ?_⟩
    rw [h]
  have HF2 : Hid (∀ w' p, parR l = some p → (p.take (n - 1)).contains (-1) = true → Below w.heap.size w w' → rpQ l w (.returned (.tuple #[.slice none 0 0, .bool false])) w') := fun w' p h hc hb => by
    refine ⟨hb, ?_⟩
    rw [h]
    rw [hn] at hc
    simp only [hc, if_true]
  have HF3 : Hid (∀ w' p g, parR l = some p → (p.take (n - 1)).contains (-1) = false → Below w.heap.size w w' → w.heap.size ≤ g → Blk w' g p → rpQ l w (.returned (.tuple #[.slice (some ⟨g, 0, none⟩) n n, .bool true])) w') := fun w' p g h hc hb hg hk => by
    refine ⟨hb, ?_⟩
    rw [h]
    rw [hn] at hc ⊢
    simp only [hc]
    exact ⟨g, hg, hk, rfl⟩
  rw [← hn] at h0 h1 ⊢
  have HN : Hid (n = l.length) := hn
  have hnc : n ≤ c := by rw [hn]; exact hl.1
  have hc2 : c ≤ 9223372036854775807 := hl.2.1
  have c53 := cells53
  have c3 := cells3'
  clear hl hn hK
  obtain ⟨G, hG⟩ : ∃ G, G = w.heap.size + 1 := ⟨_, rfl⟩
  have hbc := below_cells w #[.slice ao n c] 24
  have hsz1 : (w.alloc (.cells #[.slice ao n c] 24)).heap.size = w.heap.size + 1 := by simp
  have d0 : (w.alloc (.cells #[.slice ao n c] 24)).cell? ⟨w.heap.size, 0, none⟩ = some (.slice ao n c) := by simp
  go_enter Tryz.func42, Tryz.ntmps42
  go_wp2_with (first | (at_make; refine wpList_make_full _ rfl _ _ 42 rfl (w.heap.size + 1) 3 i0 (.int .i64 0) 1 Tryz.underlying42 HI.out.1 HI.out.2.1 HI.out.2.2.1 .i64 .i64 n n n rfl rfl rfl rfl (by rw [HI.out.2.2.2]; omega) (by unfold maxLen; omega) (by simp) ?_; intro w2 hown2 hgrow2; have HO2 : Hid _ := (show w2.ownsRow (w.heap.size + 1) 3 1 (.slice (some ⟨(w.alloc (.cells #[.slice ao n c] 24)).heap.size, 0, none⟩) n n) n (madeCells (Value.int .i64 0).cells (n * 1)).toList from hown2); have HG2 : Hid _ := (show (w.alloc (.cells #[.slice ao n c] 24)).grownBy w2 none from hgrow2); clear hown2 hgrow2; have HB2 : Hid (Below (w.heap.size + 1) (w.alloc (.cells #[.slice ao n c] 24)) w2) := (Below.refl _ _).grown HG2.out (by simp) (fun k hk => by cases hk); have HK2 : Hid (Blk w2 (w.heap.size + 1) (List.replicate n 0)) := blk_of_own (by have t := HO2.out; rw [made_rep, hsz1] at t; exact t); have e0 := ((bcell (hsz1 ▸ HB2.out)).1 w.heap.size 0 (by omega)).trans d0; clear HO2 HG2) | fail)
  obtain ⟨W1, hW1⟩ : ∃ W, W = w.alloc (.cells #[.slice ao n c] 24) := ⟨_, rfl⟩
  rw [← hW1] at HB2 hbc d0 hsz1
  have HBC : Hid (Below w.heap.size w W1) := hbc
  have HCT : Hid (∀ W, Below (w.heap.size + 1) W1 W → W.cell? ⟨w.heap.size, 0, none⟩ = some (.slice ao n c) ∧ Below w.heap.size w W) := fun W hW => ⟨by rw [hW.cell (p := ⟨w.heap.size, 0, none⟩) (by show w.heap.size < w.heap.size + 1; omega)]; exact d0, HBC.out.trans (hW.mono (by omega))⟩
  have HS0 : Hid (Below (w.heap.size + 1) W1 w2 ∧ Blk w2 G (List.replicate n 0)) := ⟨HB2.out, by rw [hG]; exact HK2.out⟩
  clear hW1 hbc d0 HB2 HK2 e0 hsz1
  rw [← hG]
  have hGw : w.heap.size + 1 ≤ G := by omega
  have HG : Hid (G = w.heap.size + 1) := hG
  clear hG
  go_loopw [5, 17] (fun _ i wx => ∃ k : Nat, k ≤ n ∧ i = .int .i64 k ∧ Below (w.heap.size + 1) W1 wx ∧ Blk wx G (List.replicate k (-1) ++ List.replicate (n - k) 0)) (fun _ i _ => n - (intOf i).toNat)
  case atStart => exact ⟨0, Nat.zero_le _, rfl, HS0.out.1, by simpa using HS0.out.2⟩
  case round =>
    obtain ⟨k, hk, rfl, hB, hP⟩ := hrel
    clear HS0
    by_cases hlt : k < n
    · have d0 := hP.cell (j := k) (y := 0) (by rw [List.getElem?_append_right (by simp)]; simp [List.getElem?_replicate]; omega)
      have f0 := hP.fz k
      have HS : Hid (Below (w.heap.size + 1) W1 (wr.setCell ⟨G, k, none⟩ (.int .i64 (-1))) ∧ Blk (wr.setCell ⟨G, k, none⟩ (.int .i64 (-1))) G (List.replicate (k + 1) (-1) ++ List.replicate (n - (k + 1)) 0)) := by
        refine ⟨hB.setCell (p := ⟨G, k, none⟩) hGw _, ?_⟩
        have t := hP.set k (-1)
        have e : (List.replicate k (-1 : Int) ++ List.replicate (n - k) 0).set k (-1) = List.replicate (k + 1) (-1) ++ List.replicate (n - (k + 1)) 0 := by
          obtain ⟨r, hr⟩ : ∃ r, n - k = r + 1 := ⟨n - k - 1, by omega⟩
          rw [hr, show n - (k + 1) = r by omega, List.set_append_right _ _ (by simp), List.length_replicate, Nat.sub_self, List.replicate_succ, List.set_cons_zero, List.replicate_succ']
          simp
        rw [e] at t
        exact t
      clear hB hP
      go_wp2
      exact ⟨⟨k + 1, by omega, by go_num, HS.out.1, HS.out.2⟩, by simp [intOf]; omega⟩
    · obtain rfl : n = k := by omega
      have HS : Hid (Below (w.heap.size + 1) W1 wr ∧ Blk wr G (List.replicate n (-1)) ∧ parR l = pAll 0 (l.drop 0) (List.replicate n (-1))) := ⟨hB, by simpa using hP, by unfold parR; rw [← HN.out]; rfl⟩
      have t0 := (HCT.out wr hB).1
      clear hB hP
      go_wp2
      clear t0
      go_loopw [6, 7, 9, 27] (fun _ _ _ i wx => ∃ (k : Nat) (p : List Int), k ≤ n ∧ i = .int .i64 k ∧ Below (w.heap.size + 1) W1 wx ∧ Blk wx G p ∧ p.length = n ∧ parR l = pAll k (l.drop k) p) (fun _ _ _ i _ => n - (intOf i).toNat)
      case atStart => exact ⟨0, _, Nat.zero_le _, rfl, HS.out.1, HS.out.2.1, by simp, HS.out.2.2⟩
      case round =>
        obtain ⟨k, p, hk, rfl, hB, hP, hpl, hR⟩ := hrel
        clear HS
        by_cases hlt : k < n
        · obtain ⟨x, hx⟩ : ∃ x, l[k]? = some x := ⟨_, List.getElem?_eq_getElem (by have := HN.out; omega)⟩
          have hxo := HL.out.2.2.1 x (List.mem_of_getElem? hx)
          obtain ⟨gn, on, rfl, hnd⟩ := HL.out.2.2.2 (by have := HN.out; omega)
          obtain ⟨y0, y1, y2, y3, y4, y5⟩ := nd_cells hnd hx
          have hg : gn < w.heap.size := World.block_lt_of_cell? _ _ y0
          have hBw := (HCT.out wr hB).2
          have a0 := ((bcell hBw).1 gn _ hg).trans y0
          have a1 := ((bcell hBw).1 gn _ hg).trans y1
          have a2 := ((bcell hBw).1 gn _ hg).trans y2
          have a3 := ((bcell hBw).1 gn _ hg).trans y3
          have a4 := ((bcell hBw).1 gn _ hg).trans y4
          have a5 := ((bcell hBw).1 gn _ hg).trans y5
          have hdk : l.drop k = x :: l.drop (k + 1) := by
            obtain ⟨hk', rfl⟩ := List.getElem?_eq_some_iff.1 hx
            exact List.drop_eq_getElem_cons hk'
          rw [hdk] at hR
          have HIn : Hid (parR l = match pKids k (x.ks.drop 0) p with
            | none => none
            | some p' => pAll (k + 1) (l.drop (k + 1)) p') := hR
          have HKx : Hid (∀ y ∈ x.ks, 0 ≤ y ∧ y < (k : Int)) := HKn.out k x hx
          have HK : Hid (∀ W, Below w.heap.size w W → IsA W x.ka x.kc x.ks) := fun W hW => hxo.ks.below hW
          have HBP : Hid (Below (w.heap.size + 1) W1 wr ∧ Blk wr G p ∧ p.length = n) := ⟨hB, hP, hpl⟩
          have hszr : w.heap.size + 1 ≤ wr.heap.size := by
            have := (Array.getElem?_eq_some_iff.1 hP).1
            omega
          have hkc : x.ks.length ≤ x.kc := hxo.ks.1
          have hkc2 : x.kc ≤ 9223372036854775807 := hxo.ks.2.1
          clear hnd hx hxo y0 y1 y2 y3 y4 y5 hdk hR hB hP hpl hBw
          obtain ⟨K, T, V, ka, kc, ks, F, E⟩ := x
          simp only at *
          obtain ⟨m, hm⟩ : ∃ m, m = ks.length := ⟨_, rfl⟩
          rw [← hm] at a3 hkc
          have HM : Hid (m = ks.length) := hm
          clear hm
          go_wp2
          clear a0 a1 a2 a3 a4 a5
          go_loopw [9, 35] (fun _ i wx => ∃ (j : Nat) (q : List Int), j ≤ m ∧ i = .int .i64 j ∧ Below (w.heap.size + 1) W1 wx ∧ Blk wx G q ∧ q.length = n ∧ parR l = match pKids k (ks.drop j) q with
            | none => none
            | some p' => pAll (k + 1) (l.drop (k + 1)) p') (fun _ i _ => m - (intOf i).toNat)
          case atStart => exact ⟨0, p, Nat.zero_le _, rfl, HBP.out.1.alloc hszr _, HBP.out.2.1.alloc _, HBP.out.2.2, HIn.out⟩
          case round =>
            obtain ⟨j, q, hj, rfl, hB, hP, hql, hR⟩ := hrel
            clear HIn HBP hszr
            by_cases hjm : j < m
            · obtain ⟨y, hy⟩ : ∃ y, ks[j]? = some y := ⟨_, List.getElem?_eq_getElem (by have := HM.out; omega)⟩
              obtain ⟨gk, ok, rfl, hkc'⟩ := (HK.out _ (HCT.out wr hB).2).2.2 (by have := HM.out; omega)
              have b0 := hkc' j y hy
              have hdj : ks.drop j = y :: ks.drop (j + 1) := by
                obtain ⟨hk', rfl⟩ := List.getElem?_eq_some_iff.1 hy
                exact List.drop_eq_getElem_cons hk'
              rw [hdj] at hR
              obtain ⟨hy0, hyk⟩ := HKx.out y (List.mem_of_getElem? hy)
              obtain ⟨z, rfl⟩ : ∃ z : Nat, y = z := ⟨y.toNat, by omega⟩
              have hzn : z < n := by omega
              obtain ⟨u, hu⟩ : ∃ u, q[z]? = some u := ⟨_, List.getElem?_eq_getElem (by omega)⟩
              have d0 := hP.cell hu
              have f0 := hP.fz z
              have hgd : q.getD z 0 = u := by simp [List.getD, hu]
              have HPK : Hid (Below (w.heap.size + 1) W1 wr ∧ Blk wr G q ∧ q.length = n) := ⟨hB, hP, hql⟩
              have HY : Hid (parR l = match (if (z : Int) < 0 ∨ (k : Int) ≤ (z : Int) ∨ 0 ≤ q.getD (z : Int).toNat 0 then none else pKids k (ks.drop (j + 1)) (q.set (z : Int).toNat k)) with
                | none => none
                | some p' => pAll (k + 1) (l.drop (k + 1)) p') := hR
              rw [Int.toNat_natCast, hgd] at HY
              clear hkc' hy hdj hR hB hP hql hu hgd
              by_cases hu0 : 0 ≤ u
              · rw [if_pos (.inr (.inr hu0))] at HY
                have HE : Hid (parR l = none) := HY.out
                go_wp2
                go_ret2
                exact HF1.out _ HE.out (HCT.out wr HPK.out.1).2
              · rw [if_neg (by omega)] at HY
                have HS : Hid (Below (w.heap.size + 1) W1 (wr.setCell ⟨G, z, none⟩ (.int .i64 k)) ∧ Blk (wr.setCell ⟨G, z, none⟩ (.int .i64 k)) G (q.set z k) ∧ (q.set z (k : Int)).length = n) := ⟨HPK.out.1.setCell (p := ⟨G, z, none⟩) hGw _, HPK.out.2.1.set z k, by rw [List.length_set]; exact HPK.out.2.2⟩
                go_wp2
                exact ⟨⟨j + 1, q.set z k, by omega, by go_num, HS.out.1, HS.out.2.1, HS.out.2.2, HY.out⟩, by simp [intOf]; omega⟩
            · obtain rfl : j = m := by omega
              have hdj : ks.drop j = [] := List.drop_eq_nil_of_le (by have := HM.out; omega)
              rw [hdj] at hR
              have HE : Hid (Below (w.heap.size + 1) W1 wr ∧ Blk wr G q ∧ q.length = n ∧ parR l = pAll (k + 1) (l.drop (k + 1)) q) := ⟨hB, hP, hql, hR⟩
              clear hdj hR hB hP hql
              go_wp2
              exact ⟨⟨k + 1, q, by omega, by go_num, HE.out⟩, by simp [intOf]; omega⟩
        · obtain rfl : n = k := by omega
          have hdk : l.drop n = [] := List.drop_eq_nil_of_le (by have := HN.out; omega)
          rw [hdk] at hR
          have hpr : parR l = some p := hR
          have HUp : Hid (Upk n p) := by have t := (parR_some hpr).2.1; rw [← HN.out] at t; exact t
          have HE : Hid (Below (w.heap.size + 1) W1 wr ∧ Blk wr G p ∧ p.length = n ∧ parR l = some p) := ⟨hB, hP, hpl, hpr⟩
          clear hdk hR hB hP hpl hpr
          go_wp2
          go_loop [10] (fun i => ∃ k : Nat, k + 1 ≤ n ∧ i = .int .i64 k ∧ (p.take k).contains (-1) = false) (fun i => n - (intOf i).toNat)
          case atStart => exact ⟨0, h0, rfl, rfl⟩
          case round =>
            obtain ⟨k, hk, rfl, hA⟩ := hrel
            by_cases hlt2 : k + 1 < n
            · obtain ⟨y, hy⟩ : ∃ y, p[k]? = some y := ⟨_, List.getElem?_eq_getElem (by have := HE.out.2.2.1; omega)⟩
              have d0 := HE.out.2.1.cell hy
              have hgd : p.getD k 0 = y := by simp [List.getD, hy]
              have hyu := HUp.out k (by have := HE.out.2.2.1; omega)
              rw [hgd] at hyu
              have hki : (k : Int) + 1 < (n : Int) := by omega
              have hkn : k < n := by omega
              by_cases hyn : y < 0
              · have hy1 : y = -1 := by omega
                have HC : Hid ((p.take (n - 1)).contains (-1) = true) := by
                  show _ = _
                  rw [List.contains_iff_mem]
                  have hkl : k < p.length := by have := HE.out.2.2.1; omega
                  have : p[k] = -1 := by
                    rw [List.getElem?_eq_getElem hkl] at hy
                    rw [Option.some.inj hy, hy1]
                  rw [← this]
                  exact List.mem_take_iff_getElem.2 ⟨k, by omega, rfl⟩
                clear hy hgd hyu hA
                go_wp2
                go_ret2
                exact HF2.out _ _ HE.out.2.2.2 HC.out (HCT.out wr HE.out.1).2
              · have HA2 : Hid ((p.take (k + 1)).contains (-1) = false) := by
                  show _ = _
                  rw [← Bool.not_eq_true, List.contains_iff_mem] at hA ⊢
                  rw [List.take_add_one, hy]
                  intro hm
                  rcases List.mem_append.1 hm with hm | hm
                  · exact hA hm
                  · simp at hm
                    omega
                clear hy hgd hyu hA
                go_wp2
                exact ⟨⟨k + 1, by omega, by go_num, HA2.out⟩, by simp [intOf]; omega⟩
            · have hk1 : n - 1 = k := by omega
              have HC : Hid ((p.take (n - 1)).contains (-1) = false) := by rw [hk1]; exact hA
              have hki : ¬ (k : Int) + 1 < (n : Int) := by omega
              clear hA hk1
              go_wp2
              go_ret2
              exact HF3.out _ _ _ HE.out.2.2.2 HC.out (HCT.out wr HE.out.1).2 (by omega) HE.out.2.1
end
section
open Go.RowKit Go.Shelf
theorem fold_max (zs : List Int) (a : Int) : a ≤ zs.foldl max a ∧ (∀ z ∈ zs, z ≤ zs.foldl max a) ∧ (zs.foldl max a = a ∨ zs.foldl max a ∈ zs) := by
  induction zs generalizing a with
  | nil => exact ⟨Int.le_refl _, fun z hz => (by cases hz), .inl rfl⟩
  | cons y r ih =>
    obtain ⟨h1, h2, h3⟩ := ih (max a y)
    simp only [List.foldl_cons]
    refine ⟨by omega, fun z hz => ?_, ?_⟩
    · rcases List.mem_cons.1 hz with rfl | hz
      · omega
      · exact h2 z hz
    · rcases h3 with h3 | h3
      · rw [h3]
        by_cases h : a ≤ y
        · rw [Int.max_eq_right h]
          exact .inr (List.mem_cons_self ..)
        · rw [Int.max_eq_left (by omega)]
          exact .inl rfl
      · exact .inr (List.mem_cons_of_mem _ h3)
theorem maxOf_char {zs : List Int} {M : Int} {i : Nat} (hi : i < zs.length) (hm : zs.getD i 0 = M) (h : ∀ j, j < zs.length → zs.getD j 0 ≤ M) : Lib.maxOf zs = M := by
  have mem : ∀ z ∈ zs, z ≤ M := fun z hz => by
    obtain ⟨j, hj, rfl⟩ := List.getElem_of_mem hz
    have t := h j hj
    simpa [List.getD, hj] using t
  have hM : M ∈ zs := by
    have t : zs[i] = M := by simpa [List.getD, hi] using hm
    rw [← t]
    exact List.getElem_mem hi
  obtain ⟨_, h2, h3⟩ := fold_max zs (zs.headD 0)
  unfold Lib.maxOf
  have hh : zs.headD 0 ∈ zs := by
    cases zs with
    | nil => cases hM
    | cons a r => exact List.mem_cons_self ..
  have := h2 M hM
  rcases h3 with h3 | h3
  · have := mem _ hh
    omega
  · have := mem _ h3
    omega
/-- The greatest so far. -/
def Gr (d : List Int) (M : Int) : Prop := (∃ i, i < d.length ∧ d.getD i 0 = M) ∧ ∀ j, j < d.length → d.getD j 0 ≤ M
set_option maxRecDepth 100000 in
set_option maxHeartbeats 4000000 in
theorem deep44 (p : List Int) (tv : Value) (G n : Nat) (w : World) (hp : Blk w G p) (hn : p.length = n) (h0 : 1 ≤ n) (h1 : n ≤ 20000) (hu : Ups p) : Calls Tryz.prog 44 #[.agg #[tv], .slice (some ⟨G, 0, none⟩) n n] w fun e w' => e = .returned (.int .i64 (Lib.maxOf (depR p))) ∧ Below w.heap.size w w' := by
  obtain ⟨i0, hi, hz0, hz1, hz2⟩ := info_parts info3
  have HI : Hid (Tryz.prog.info? 3 = some i0 ∧ i0.zero = some (.int .i64 0) ∧ i0.size = 1 ∧ i0.bytes = 8) := ⟨hi, hz0, hz1, hz2⟩
  clear hi hz0 hz1 hz2
  have HP : Hid (Blk w G p ∧ p.length = n ∧ Ups p) := ⟨hp, hn, hu⟩
  have hGw : G < w.heap.size := (Array.getElem?_eq_some_iff.1 hp).1
  have c3 := cells3'
  generalize hR : Lib.maxOf (depR p) = R at *
  have HR : Hid (Lib.maxOf (depR p) = R) := hR
  clear hp hn hu hR
  have hn2 : IntKind.i64.wrap ((n : Int) - 2) = (n : Int) - 2 := by simp [IntKind.wrap, IntKind.bits, IntKind.signed]; omega
  go_enter Tryz.func44, Tryz.ntmps44
  go_wp2_with (first | (at_make; refine wpList_make_full _ rfl _ _ 42 rfl (w.heap.size + 1) 3 i0 (.int .i64 0) 1 Tryz.underlying42 HI.out.1 HI.out.2.1 HI.out.2.2.1 .i64 .i64 n n n rfl rfl rfl rfl (by rw [HI.out.2.2.2]; omega) (by unfold maxLen; omega) (by simp) ?_; intro w2 hown2 hgrow2; have HO2 : Hid _ := (show w2.ownsRow (w.heap.size + 1) 3 1 (.slice (some ⟨(w.alloc (.cells #[tv] 24)).heap.size, 0, none⟩) n n) n (madeCells (Value.int .i64 0).cells (n * 1)).toList from hown2); have HG2 : Hid _ := (show (w.alloc (.cells #[tv] 24)).grownBy w2 none from hgrow2); clear hown2 hgrow2; have HB2 : Hid (Below w.heap.size w w2) := (below_cells w _ _).grown HG2.out (by simp) (fun k hk => by cases hk); have HK2 : Hid (Blk w2 (w.heap.size + 1) (List.replicate n 0)) := blk_of_own (by have t := HO2.out; rw [made_rep, show (w.alloc (.cells #[tv] 24)).heap.size = w.heap.size + 1 by simp] at t; exact t); clear HO2 HG2) | fail)
  obtain ⟨D, hD⟩ : ∃ D, D = w.heap.size + 1 := ⟨_, rfl⟩
  rw [← hD]
  have HR0 : Hid (Below w.heap.size w w2 ∧ Blk w2 D (List.replicate n 0)) := ⟨HB2.out, by rw [hD]; exact HK2.out⟩
  have hDw : w.heap.size ≤ D := by omega
  have hDG : ¬ D = G := by omega
  clear HB2 HK2 hD
  go_loopw [5, 7] (fun v i wx => ∃ (m : Nat) (d : List Int) (M : Int), m + 1 ≤ n ∧ i = .int .i64 ((m : Int) - 1) ∧ v = .int .i64 M ∧ Below w.heap.size w wx ∧ Blk wx D d ∧ d.length = n ∧ (∀ j, 0 ≤ d.getD j 0 ∧ d.getD j 0 ≤ (n : Int) - 1 - m) ∧ (∀ j, j < m → d.getD j 0 = 0) ∧ Gr d M ∧ depR p = dAll p m d) (fun _ i _ => (intOf i + 1).toNat)
  case atStart =>
    have hz : ∀ j, (List.replicate n (0 : Int)).getD j 0 = 0 := fun j => by
      simp only [List.getD, List.getElem?_replicate]
      split <;> rfl
    refine ⟨n - 1, List.replicate n 0, 0, by omega, by congr 1; omega, rfl, HR0.out.1, HR0.out.2, by simp, fun j => ?_, fun j _ => hz j, ⟨⟨0, by simp; omega, hz 0⟩, fun j _ => by rw [hz j]; omega⟩, by unfold depR; rw [HP.out.2.1]⟩
    rw [hz j]
    omega
  case round =>
    obtain ⟨m, d, M, hm, rfl, rfl, hB, hD, hdl, hbd, hzr, hGr, hR⟩ := hrel
    clear HR0
    by_cases hm0 : 0 < m
    · obtain ⟨k, rfl⟩ : ∃ k, m = k + 1 := ⟨m - 1, by omega⟩
      have hkk : ((k + 1 : Nat) : Int) - 1 = (k : Int) := by omega
      rw [hkk]
      obtain ⟨hy1, hy2⟩ := HP.out.2.2 k (by rw [HP.out.2.1]; omega)
      rw [HP.out.2.1] at hy2
      obtain ⟨y, hy⟩ : ∃ y : Nat, p.getD k 0 = y := ⟨(p.getD k 0).toNat, by omega⟩
      rw [hy] at hy1 hy2
      have hpk : p[k]? = some (y : Int) := by
        have : k < p.length := by rw [HP.out.2.1]; omega
        rw [List.getElem?_eq_getElem this]
        simp [List.getD, this] at hy
        rw [hy]
      have hPw : Blk wr G p := by
        unfold Blk
        rw [hB.block G hGw]
        exact HP.out.1
      have a0 := hPw.cell hpk
      obtain ⟨u, hu⟩ : ∃ u, d[y]? = some u := ⟨_, List.getElem?_eq_getElem (by omega)⟩
      have a1 := hD.cell hu
      obtain ⟨u', hu'⟩ : ∃ u, d[k]? = some u := ⟨_, List.getElem?_eq_getElem (by omega)⟩
      have a2 := hD.cell hu'
      have f2 := hD.fz k
      have hgd : d.getD y 0 = u := by simp [List.getD, hu]
      have hub := hbd y
      rw [hgd] at hub
      have hwa : IntKind.i64.wrap (u + 1) = u + 1 := by simp [IntKind.wrap, IntKind.bits, IntKind.signed]; omega
      have ek : (d.set k (u + 1)).getD k 0 = u + 1 := by simp [List.getD, show k < d.length by omega]
      have eo : ∀ j, j ≠ k → (d.set k (u + 1)).getD j 0 = d.getD j 0 := fun j hj => by simp [List.getD, Ne.symm hj]
      have a3 : (wr.setCell ⟨D, k, none⟩ (.int .i64 (u + 1))).cell? ⟨D, k, none⟩ = some (.int .i64 (u + 1)) := World.cell?_setCell_same _ _ _ a2
      have HS : Hid (Below w.heap.size w (wr.setCell ⟨D, k, none⟩ (.int .i64 (u + 1))) ∧ Blk (wr.setCell ⟨D, k, none⟩ (.int .i64 (u + 1))) D (d.set k (u + 1)) ∧ (d.set k (u + 1)).length = n ∧ (∀ j, 0 ≤ (d.set k (u + 1)).getD j 0 ∧ (d.set k (u + 1)).getD j 0 ≤ (n : Int) - 1 - k) ∧ (∀ j, j < k → (d.set k (u + 1)).getD j 0 = 0) ∧ depR p = dAll p k (d.set k (u + 1))) := by
        refine ⟨hB.setCell (p := ⟨D, k, none⟩) hDw _, hD.set k _, by rw [List.length_set]; exact hdl, fun j => ?_, fun j hj => ?_, ?_⟩
        · by_cases hjk : j = k
          · subst hjk
            rw [ek]
            omega
          · rw [eo j hjk]
            have := hbd j
            omega
        · rw [eo j (by omega)]
          exact hzr j (by omega)
        · rw [hR]
          show dAll p k (dStep p k d) = _
          unfold dStep
          rw [hy, Int.toNat_natCast, hgd]
      have HGr1 : Hid (M < u + 1 → Gr (d.set k (u + 1)) (u + 1)) := fun h => by
        refine ⟨⟨k, by rw [List.length_set]; omega, ek⟩, fun j hj => ?_⟩
        rw [List.length_set] at hj
        by_cases hjk : j = k
        · subst hjk
          rw [ek]
          omega
        · rw [eo j hjk]
          have := hGr.2 j hj
          omega
      have HGr2 : Hid (¬ M < u + 1 → Gr (d.set k (u + 1)) M) := fun h => by
        obtain ⟨⟨i, hi, hiM⟩, hall⟩ := hGr
        refine ⟨⟨i, by rw [List.length_set]; exact hi, ?_⟩, fun j hj => ?_⟩
        · by_cases hik : i = k
          · subst hik
            have := hzr i (by omega)
            omega
          · rw [eo i hik]
            exact hiM
        · rw [List.length_set] at hj
          by_cases hjk : j = k
          · subst hjk
            rw [ek]
            omega
          · rw [eo j hjk]
            exact hall j hj
      have hyI : (y : Int) < (n : Int) := hy2
      have hkI : (k : Int) < (n : Int) := by omega
      have hkn : k < n := by omega
      have hyn : y < n := by omega
      clear hpk hPw hu hu' hgd hbd hR hD hB hdl hy hzr hGr ek eo
      by_cases hMu : M < u + 1
      · go_wp2
        exact ⟨⟨k, d.set k (u + 1), u + 1, by omega, by go_num, rfl, HS.out.1, HS.out.2.1, HS.out.2.2.1, HS.out.2.2.2.1, HS.out.2.2.2.2.1, HGr1.out hMu, HS.out.2.2.2.2.2⟩, by simp [intOf]⟩
      · go_wp2
        exact ⟨⟨k, d.set k (u + 1), M, by omega, by go_num, rfl, HS.out.1, HS.out.2.1, HS.out.2.2.1, HS.out.2.2.2.1, HS.out.2.2.2.2.1, HGr2.out hMu, HS.out.2.2.2.2.2⟩, by simp [intOf]⟩
    · obtain rfl : m = 0 := by omega
      have hRM : R = M := by
        rw [← HR.out, hR]
        obtain ⟨⟨i, hi, hiM⟩, hall⟩ := hGr
        exact maxOf_char hi hiM hall
      have HB : Hid (Below w.heap.size w wr) := hB
      subst hRM
      clear hB hD hdl hbd hR hzr hGr
      go_wp2
      go_ret
      exact ⟨rfl, HB.out⟩
end
section
open Go.RowKit Go.Shelf
theorem kids_known (l : List Nd) (k v : Int) (ks : List Int) (h : kidsB l k v ks = true) : knB k = true := by
  by_cases hk : k = 1 ∨ k = 2 ∨ k = 3 ∨ k = 4 ∨ k = 5 ∨ k = 6 ∨ k = 7 ∨ k = 10 ∨ k = 11 ∨ k = 12 ∨ k = 13 ∨ k = 14 ∨ k = 15 ∨ k = 16 ∨ k = 20 ∨ k = 21 ∨ k = 22 ∨ k = 23 ∨ k = 24 ∨ k = 25 ∨ k = 26 ∨ k = 27 ∨ k = 30 ∨ k = 31 ∨ k = 32 ∨ k = 33 ∨ k = 34 ∨ k = 35 ∨ k = 36 ∨ k = 37 ∨ k = 38 ∨ k = 39 ∨ k = 40 ∨ k = 41 ∨ k = 42 ∨ k = 43 ∨ k = 44 ∨ k = 45 ∨ k = 46 ∨ k = 47 ∨ k = 50 ∨ k = 51 ∨ k = 52 ∨ k = 53 ∨ k = 54
  · unfold knB tyB stB paB
    simp only [Bool.and_eq_true, Bool.or_eq_true, decide_eq_true_eq]
    omega
  · exfalso
    simp only [not_or] at hk
    obtain ⟨h1, h2, h3, h4, h5, h6, h7, h10, h11, h12, h13, h14, h15, h16, h20, h21, h22, h23, h24, h25, h26, h27, h30, h31, h32, h33, h34, h35, h36, h37, h38, h39, h40, h41, h42, h43, h44, h45, h46, h47, h50, h51, h52, h53, h54⟩ := hk
    unfold kidsB at h
    rw [if_neg h1, if_neg h2, if_neg h3, if_neg h4, if_neg h5, if_neg h6, if_neg h7, if_neg h10, if_neg h11, if_neg h12, if_neg h13, if_neg h14, if_neg h15, if_neg h16, if_neg h20, if_neg h21, if_neg h22, if_neg h23, if_neg h24, if_neg h25, if_neg h26, if_neg h27, if_neg h30, if_neg h31, if_neg h32, if_neg h33, if_neg h34, if_neg h35, if_neg h36, if_neg h37, if_neg h38, if_neg h39, if_neg h40, if_neg h41, if_neg h42, if_neg h43, if_neg h44, if_neg h45, if_neg h46, if_neg h47, if_neg h50, if_neg h51, if_neg h52, if_neg h53, if_neg h54] at h
    cases h
theorem rn_iff (l : List Nd) (i : Nat) (x : Nd) : rnB l i x = true ↔ nodB l x = true ∧ kinB i x.ks = true := by
  unfold rnB nodB
  simp only [Bool.and_eq_true]
  constructor
  · rintro ⟨h1, h2, h3, h4, h5, h6, h7⟩
    rw [forms_kids l x.k x.v x.ks h3 h1] at h7
    exact ⟨⟨h4, h5, h2, h3, h7⟩, h6⟩
  · rintro ⟨⟨h4, h5, h2, h3, h7⟩, h6⟩
    have h1 := kids_known l x.k x.v x.ks h7
    refine ⟨h1, h2, h3, h4, h5, h6, ?_⟩
    rw [forms_kids l x.k x.v x.ks h3 h1]
    exact h7
/-- All nodes are right by themselves. -/
def AllR (l : List Nd) : Prop := ∀ (i : Nat) x, l[i]? = some x → rnB l i x = true
theorem allR_kin {l : List Nd} (h : AllR l) : Kin l := fun k x hx y hy => by
  have t := ((rn_iff l k x).1 (h k x hx)).2
  have t2 := List.all_eq_true.1 t y hy
  simpa using t2
theorem allR_nod {l : List Nd} (h : AllR l) : l.all (nodB l) = true := by
  rw [List.all_eq_true]
  intro x hx
  obtain ⟨i, hi, rfl⟩ := List.getElem_of_mem hx
  exact ((rn_iff l i l[i]).1 (h i _ (List.getElem?_eq_getElem hi))).1
theorem right_allR {l : List Nd} (h : rightB l = true) : AllR l := by
  obtain ⟨p, hp, _⟩ := right_par h
  intro i x hx
  rw [rn_iff]
  refine ⟨?_, ?_⟩
  · unfold rightB at h
    split at h
    · cases h
    · rw [hp] at h
      simp only [Bool.and_eq_true] at h
      exact List.all_eq_true.1 h.2.2 x (List.mem_of_getElem? hx)
  · unfold kinB
    rw [List.all_eq_true]
    intro y hy
    have t := par_kin hp i x hx y hy
    simpa using t
theorem right_of {l : List Nd} (h : AllR l) (h0 : ¬ (l.length = 0 ∨ 20000 < l.length ∨ ¬ lastK l = 1)) : rightB l = match parR l with
  | none => false
  | some p => !((p.take (l.length - 1)).contains (-1)) && !(decide (400 < Lib.maxOf (depR p))) := by
  unfold rightB
  rw [if_neg h0, allR_nod h]
  cases parR l with
  | none => rfl
  | some p => simp
theorem right_not {l : List Nd} {i : Nat} {x : Nd} (hx : l[i]? = some x) (h : rnB l i x = false) : rightB l = false := by
  rw [← Bool.not_eq_true]
  intro hr
  rw [right_allR hr i x hx] at h
  cases h
end
end Go.Proofs.YtkkmeogehapjoaaGreatDoor
