/- Plain: unlike right instructions have unlike words and unlike texts. -/
import Derived.Test.YtndbkkldfinggaaDoorS4
import Derived.Test.YtndbkkldfinggaaDoorFwd
namespace Go.Proofs.YtndbkkldfinggaaDoor
theorem split_at {c : UInt8} : ∀ {l l' m m' : List UInt8}, c ∉ l → c ∉ l' → l ++ c :: m = l' ++ c :: m' → l = l' ∧ m = m'
  | [], [], _, _, _, _, h => by simpa using h
  | [], x :: l', _, _, _, h', h => by simp at h h'; exact absurd h.1 h'.1
  | x :: l, [], _, _, h', _, h => by simp at h h'; exact absurd h.1.symm h'.1
  | x :: l, y :: l', _, _, a, b, h => by
    simp at h a b
    obtain ⟨p, q⟩ := split_at a.2 b.2 h.2
    exact ⟨by rw [h.1, p], q⟩
theorem dec_chars (u : Nat) : ∀ c ∈ Lib.decDigits u, 48 ≤ c.toNat ∧ c.toNat ≤ 57 := by
  induction u using Nat.strongRecOn with
  | ind u ih =>
    intro c hc
    rw [Lib.decDigits] at hc
    split at hc
    · simp at hc; subst hc; simp; omega
    · simp at hc
      rcases hc with hc | hc
      · exact ih (u / 10) (by omega) c hc
      · subst hc; simp; omega
/-- What digits say. -/
def digV (l : List UInt8) : Nat := l.foldl (fun a c => 10 * a + (c.toNat - 48)) 0
theorem digV_dec (u : Nat) : digV (Lib.decDigits u) = u := by
  induction u using Nat.strongRecOn with
  | ind u ih =>
    rw [Lib.decDigits]
    split
    · simp [digV]; omega
    · have t := ih (u / 10) (by omega)
      unfold digV at t ⊢
      rw [List.foldl_append, t]
      simp
      omega
theorem dec_inj {u v : Nat} (h : Lib.decDigits u = Lib.decDigits v) : u = v := by rw [← digV_dec u, ← digV_dec v, h]
theorem itoa_chars (n : Int) : ∀ c ∈ Lib.itoa n, c.toNat = 45 ∨ 48 ≤ c.toNat ∧ c.toNat ≤ 57 := by
  intro c hc
  unfold Lib.itoa at hc
  split at hc
  · simp at hc
    rcases hc with rfl | hc
    · exact .inl rfl
    · exact .inr (dec_chars _ c hc)
  · exact .inr (dec_chars _ c hc)
theorem itoa_inj {n m : Int} (h : Lib.itoa n = Lib.itoa m) : n = m := by
  unfold Lib.itoa at h
  split at h <;> split at h
  · simp at h; have := dec_inj h; omega
  · have : (45 : UInt8) ∈ Lib.decDigits m.toNat := by rw [← h]; simp
    have := dec_chars _ _ this
    simp at this
  · have : (45 : UInt8) ∈ Lib.decDigits n.toNat := by rw [h]; simp
    have := dec_chars _ _ this
    simp at this
  · have := dec_inj h; omega
theorem reg_chars (r : Int) : ∀ c ∈ regT r, c.toNat = 120 ∨ 48 ≤ c.toNat ∧ c.toNat ≤ 57 := by
  intro c hc
  simp [regT] at hc
  rcases hc with rfl | hc
  · exact .inl rfl
  · exact .inr (dec_chars _ c hc)
theorem reg_inj {r s : Int} (h0 : 0 ≤ r) (k0 : 0 ≤ s) (h : regT r = regT s) : r = s := by
  simp [regT] at h
  have := dec_inj h
  omega
theorem reg_no {c : UInt8} (r : Int) (hc : c.toNat < 48) : c ∉ regT r := fun h => by have := reg_chars r c h; omega
theorem itoa_no {c : UInt8} (n : Int) (hc : c.toNat < 45) : c ∉ Lib.itoa n := fun h => by have := itoa_chars n c h; omega
theorem off_no (n r : Int) : (44 : UInt8) ∉ offT n r := by
  unfold offT
  simp only [List.mem_append, not_or]
  exact ⟨⟨⟨itoa_no n (by decide), by decide⟩, reg_no r (by decide)⟩, by decide⟩
theorem off_inj {n m r s : Int} (h0 : 0 ≤ r) (k0 : 0 ≤ s) (h : offT n r = offT m s) : n = m ∧ r = s := by
  unfold offT at h
  simp only [List.append_assoc, List.cons_append, List.nil_append] at h
  obtain ⟨p, q⟩ := split_at (itoa_no n (by decide)) (itoa_no m (by decide)) h
  obtain ⟨p', -⟩ := split_at (c := 41) (reg_no r (by decide)) (reg_no s (by decide)) q
  exact ⟨itoa_inj p, reg_inj h0 k0 p'⟩
theorem name_no {op : Int} (h1 : 1 ≤ op) (h2 : op ≤ 65) : (32 : UInt8) ∉ nameT op := by
  have t : ∀ k : Fin 65, (32 : UInt8) ∉ nmL.getD k.val [] := by decide +kernel
  have := t ⟨(op - 1).toNat, by omega⟩
  unfold nameT
  rw [if_pos h1]
  exact this
theorem name_inj {op op' : Int} (h1 : 1 ≤ op) (h2 : op ≤ 65) (k1 : 1 ≤ op') (k2 : op' ≤ 65) (h : nameT op = nameT op') : op = op' := by
  have t : ∀ k j : Fin 65, nmL.getD k.val [] = nmL.getD j.val [] → k = j := by decide +kernel
  unfold nameT at h
  rw [if_pos h1, if_pos k1] at h
  have := t ⟨(op - 1).toNat, by omega⟩ ⟨(op' - 1).toNat, by omega⟩ h
  have := congrArg Fin.val this
  simp at this
  omega
theorem word_inj {op rd r1 r2 n op' rd' r1' r2' n' : Int} (h : rightB op rd r1 r2 n = true) (h' : rightB op' rd' r1' r2' n' = true) (e : wordI op rd r1 r2 n = wordI op' rd' r1' r2' n') : op = op' ∧ rd = rd' ∧ r1 = r1' ∧ r2 = r2' ∧ n = n' := by
  obtain ⟨o1, o2⟩ := ops_of_right h
  obtain ⟨p1, p2⟩ := ops_of_right h'
  have a := mt_word h
  have b := mt_word h'
  obtain ⟨x0, x1, -, e1, e2, e3, e4⟩ := write_read h
  obtain ⟨-, -, -, f1, f2, f3, f4⟩ := write_read h'
  rw [← e] at b f1 f2 f3 f4
  obtain ⟨u1, -, u3⟩ := grp o1 o2 x0 x1 a
  obtain ⟨v1, -, v3⟩ := grp p1 p2 x0 x1 b
  have ho : op = op' := by
    rcases Int.lt_trichotomy op op' with k | k | k
    · have := v3 op u1 k; rw [this] at a; cases a
    · exact k
    · have := u3 op' v1 k; rw [this] at b; cases b
  subst ho
  exact ⟨rfl, e1.symm.trans f1, e2.symm.trans f2, e3.symm.trans f3, e4.symm.trans f4⟩
theorem ops_inj {l rd r1 r2 n rd' r1' r2' n' : Int} (hl : IsL l) (hr : (regB (nRd l) rd && regB (nR1 l) r1 && regB (nR2 l) r2) = true) (hn : numB l n = true) (hr' : (regB (nRd l) rd' && regB (nR1 l) r1' && regB (nR2 l) r2') = true) (hn' : numB l n' = true)
    (d : 0 ≤ rd ∧ 0 ≤ r1 ∧ 0 ≤ r2) (d' : 0 ≤ rd' ∧ 0 ≤ r1' ∧ 0 ≤ r2') (e : Lib.join (opsT l rd r1 r2 n) [44] = Lib.join (opsT l rd' r1' r2' n') [44]) : rd = rd' ∧ r1 = r1' ∧ r2 = r2' ∧ n = n' := by
  obtain ⟨d1, d2, d3⟩ := d
  obtain ⟨c1, c2, c3⟩ := d'
  rcases hl with rfl | rfl | rfl | rfl | rfl | rfl | rfl | rfl | rfl | rfl
  · simp [regB, nRd, nR1, nR2, numB, loN, hiN, stN] at hr hn hr' hn'
    rw [show opsT 85 rd r1 r2 n = [regT rd, Lib.itoa n] from by simp [opsT], show opsT 85 rd' r1' r2' n' = [regT rd', Lib.itoa n'] from by simp [opsT], join_two, join_two] at e
    obtain ⟨p, q⟩ := split_at (reg_no _ (by decide)) (reg_no _ (by decide)) e
    have p' := reg_inj (by omega) (by omega) p
    have q' := itoa_inj q
    omega
  · simp [regB, nRd, nR1, nR2, numB, loN, hiN, stN] at hr hn hr' hn'
    rw [show opsT 74 rd r1 r2 n = [regT rd, Lib.itoa n] from by simp [opsT], show opsT 74 rd' r1' r2' n' = [regT rd', Lib.itoa n'] from by simp [opsT], join_two, join_two] at e
    obtain ⟨p, q⟩ := split_at (reg_no _ (by decide)) (reg_no _ (by decide)) e
    have p' := reg_inj (by omega) (by omega) p
    have q' := itoa_inj q
    omega
  · simp [regB, nRd, nR1, nR2, numB, loN, hiN, stN] at hr hn hr' hn'
    rw [show opsT 73 rd r1 r2 n = [regT rd, regT r1, Lib.itoa n] from by simp [opsT], show opsT 73 rd' r1' r2' n' = [regT rd', regT r1', Lib.itoa n'] from by simp [opsT], join_three, join_three] at e
    obtain ⟨p, q⟩ := split_at (reg_no _ (by decide)) (reg_no _ (by decide)) e
    obtain ⟨q, s⟩ := split_at (reg_no _ (by decide)) (reg_no _ (by decide)) q
    have p' := reg_inj (by omega) (by omega) p
    have q' := reg_inj (by omega) (by omega) q
    have s' := itoa_inj s
    omega
  · simp [regB, nRd, nR1, nR2, numB, loN, hiN, stN] at hr hn hr' hn'
    rw [show opsT 76 rd r1 r2 n = [regT rd, offT n r1] from by simp [opsT], show opsT 76 rd' r1' r2' n' = [regT rd', offT n' r1'] from by simp [opsT], join_two, join_two] at e
    obtain ⟨p, q⟩ := split_at (reg_no _ (by decide)) (reg_no _ (by decide)) e
    have p' := reg_inj (by omega) (by omega) p
    obtain ⟨q', q''⟩ := off_inj (by omega) (by omega) q
    omega
  · simp [regB, nRd, nR1, nR2, numB, loN, hiN, stN] at hr hn hr' hn'
    rw [show opsT 72 rd r1 r2 n = [regT rd, regT r1, Lib.itoa n] from by simp [opsT], show opsT 72 rd' r1' r2' n' = [regT rd', regT r1', Lib.itoa n'] from by simp [opsT], join_three, join_three] at e
    obtain ⟨p, q⟩ := split_at (reg_no _ (by decide)) (reg_no _ (by decide)) e
    obtain ⟨q, s⟩ := split_at (reg_no _ (by decide)) (reg_no _ (by decide)) q
    have p' := reg_inj (by omega) (by omega) p
    have q' := reg_inj (by omega) (by omega) q
    have s' := itoa_inj s
    omega
  · simp [regB, nRd, nR1, nR2, numB, loN, hiN, stN] at hr hn hr' hn'
    rw [show opsT 87 rd r1 r2 n = [regT rd, regT r1, Lib.itoa n] from by simp [opsT], show opsT 87 rd' r1' r2' n' = [regT rd', regT r1', Lib.itoa n'] from by simp [opsT], join_three, join_three] at e
    obtain ⟨p, q⟩ := split_at (reg_no _ (by decide)) (reg_no _ (by decide)) e
    obtain ⟨q, s⟩ := split_at (reg_no _ (by decide)) (reg_no _ (by decide)) q
    have p' := reg_inj (by omega) (by omega) p
    have q' := reg_inj (by omega) (by omega) q
    have s' := itoa_inj s
    omega
  · simp [regB, nRd, nR1, nR2, numB, loN, hiN, stN] at hr hn hr' hn'
    rw [show opsT 83 rd r1 r2 n = [regT r2, offT n r1] from by simp [opsT], show opsT 83 rd' r1' r2' n' = [regT r2', offT n' r1'] from by simp [opsT], join_two, join_two] at e
    obtain ⟨p, q⟩ := split_at (reg_no _ (by decide)) (reg_no _ (by decide)) e
    have p' := reg_inj (by omega) (by omega) p
    obtain ⟨q', q''⟩ := off_inj (by omega) (by omega) q
    omega
  · simp [regB, nRd, nR1, nR2, numB, loN, hiN, stN] at hr hn hr' hn'
    rw [show opsT 66 rd r1 r2 n = [regT r1, regT r2, Lib.itoa n] from by simp [opsT], show opsT 66 rd' r1' r2' n' = [regT r1', regT r2', Lib.itoa n'] from by simp [opsT], join_three, join_three] at e
    obtain ⟨p, q⟩ := split_at (reg_no _ (by decide)) (reg_no _ (by decide)) e
    obtain ⟨q, s⟩ := split_at (reg_no _ (by decide)) (reg_no _ (by decide)) q
    have p' := reg_inj (by omega) (by omega) p
    have q' := reg_inj (by omega) (by omega) q
    have s' := itoa_inj s
    omega
  · simp [regB, nRd, nR1, nR2, numB, loN, hiN, stN] at hr hn hr' hn'
    rw [show opsT 82 rd r1 r2 n = [regT rd, regT r1, regT r2] from by simp [opsT], show opsT 82 rd' r1' r2' n' = [regT rd', regT r1', regT r2'] from by simp [opsT], join_three, join_three] at e
    obtain ⟨p, q⟩ := split_at (reg_no _ (by decide)) (reg_no _ (by decide)) e
    obtain ⟨q, s⟩ := split_at (reg_no _ (by decide)) (reg_no _ (by decide)) q
    have p' := reg_inj (by omega) (by omega) p
    have q' := reg_inj (by omega) (by omega) q
    have s' := reg_inj (by omega) (by omega) s
    omega
  · simp [regB, nRd, nR1, nR2, numB, loN, hiN, stN] at hr hn hr' hn'
    omega
theorem text_inj {op rd r1 r2 n op' rd' r1' r2' n' : Int} (h : rightB op rd r1 r2 n = true) (h' : rightB op' rd' r1' r2' n' = true) (e : textT op rd r1 r2 n = textT op' rd' r1' r2' n') : op = op' ∧ rd = rd' ∧ r1 = r1' ∧ r2 = r2' ∧ n = n' := by
  obtain ⟨o1, o2⟩ := ops_of_right h
  obtain ⟨p1, p2⟩ := ops_of_right h'
  obtain ⟨-, hr, hn⟩ := right_parts h
  obtain ⟨-, hr', hn'⟩ := right_parts h'
  obtain ⟨⟨d1, -⟩, ⟨d2, -⟩, ⟨d3, -⟩, -⟩ := right_ranges h
  obtain ⟨⟨c1, -⟩, ⟨c2, -⟩, ⟨c3, -⟩, -⟩ := right_ranges h'
  have x := name_no o1 o2
  have y := name_no p1 p2
  have hl := isL_of o1 o2
  unfold textT at e
  split at e <;> split at e
  · have ho := name_inj o1 o2 p1 p2 e
    subst ho
    exact ⟨rfl, ops_inj hl hr hn hr' hn' ⟨d1, d2, d3⟩ ⟨c1, c2, c3⟩ (by rename_i a b; rw [a]; rfl)⟩
  · rw [e] at x; simp at x
  · rw [← e] at y; simp at y
  · obtain ⟨a, b⟩ := split_at x y e
    have ho := name_inj o1 o2 p1 p2 a
    subst ho
    exact ⟨rfl, ops_inj hl hr hn hr' hn' ⟨d1, d2, d3⟩ ⟨c1, c2, c3⟩ b⟩
end Go.Proofs.YtndbkkldfinggaaDoor
