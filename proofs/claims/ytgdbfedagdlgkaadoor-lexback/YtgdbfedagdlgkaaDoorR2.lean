/- What is printed is cut into the same tokens again. -/
import Derived.Test.YtgdbfedagdlgkaaDoorR1
namespace Go.Proofs.YtgdbfedagdlgkaaDoor
open Go.RowKit Go.Shelf
/-- A token, no end, with a text of its kind. -/
structure Fd (x : Tj) : Prop where
  k : ¬ x.k = 5
  al : alB (fst x.t.data.toList (Lib.decodeGo x.t).2) x.t.data.toList x.k = true
  v : (fst x.t.data.toList (Lib.decodeGo x.t).2).2.2.1 = if x.k = 3 then x.v else 0
theorem fd_of {x : Tj} (ho : okT x) (h : fmT x = true) (h5 : ¬ x.k = 5) : Fd x := by
  obtain ⟨k, t, v, f, e⟩ := x
  have ho2 : v ≤ 9223372036854775807 := ho.2.2
  unfold fmT fmB at h
  simp only at h h5
  rw [if_neg h5] at h
  by_cases h3 : k = 3
  · subst h3
    rw [if_pos rfl] at h
    have hn := num_same t.data.toList (Lib.decodeGo t).2 v ho2
    rw [h] at hn
    simp only [Bool.and_eq_true, beq_iff_eq] at h
    obtain ⟨ha, hl⟩ := h
    have hv : 0 ≤ v := by
      have := hn.symm
      simp only [Bool.and_eq_true, decide_eq_true_eq] at this
      exact this.1
    refine ⟨h5, ha, ?_⟩
    show (fst t.data.toList (Lib.decodeGo t).2).2.2.1 = if (3 : Int) = 3 then v else 0
    rw [if_pos rfl, hl]
    obtain ⟨u, rfl⟩ : ∃ u : Nat, v = u := ⟨v.toNat, by omega⟩
    rw [Lib.itoa_nonneg]
    have hp := dec_pos u
    have h0 : dgB (bt (Lib.decDigits u) 0) = true := by
      obtain ⟨c, hc, e⟩ := bt_mem hp
      rw [e, dgB_iff]
      exact dec_digit u c hc
    unfold fst
    rw [if_pos (by rw [dec_nsz]; exact hp), if_pos h0, dec_nsz, List.take_length, dec_nuO u (by omega)]
  · rw [if_neg h3] at h
    refine ⟨h5, h, ?_⟩
    show (fst t.data.toList (Lib.decodeGo t).2).2.2.1 = if k = 3 then v else 0
    rw [if_neg h3]
    have hk : (fst t.data.toList (Lib.decodeGo t).2).1 = k := (fst_go (m := []) (.inl rfl) h).2.2.1
    generalize t.data.toList = l at *
    unfold fst at hk ⊢
    split
    · rename_i h1
      rw [if_pos h1] at hk
      split
      · rename_i h2
        rw [if_pos h2] at hk
        split
        · rename_i v hv
          rw [hv] at hk
          simp only at hk
          omega
        · rfl
      · rfl
    · split <;> rfl
theorem fd_pos {x : Tj} (h : Fd x) : 0 < x.t.data.toList.length := (fst_go (m := []) (.inl rfl) h.al).1
theorem toks_jn (s : ByteArray) : ∀ (ts : List Tj) (p f : Nat) (acc : List Tk), s.data.toList.drop p = jn ts → ts ≠ [] → (∀ x ∈ ts, Fd x) → s.size ≤ p + f → toks s f p acc = .ok (acc ++ mkT p ts ++ [endT s])
  | [], _, _, _, _, h, _, _ => absurd rfl h
  | x :: r, p, f, acc, hd, _, hF, hf => by
    have hx := hF x List.mem_cons_self
    have hsp := tl_sp r
    obtain ⟨g1, g2, g3, g4, g5, g6⟩ := fst_go hsp hx.al
    have hL := len_of s
    have hxL := len_of x.t
    have hd' : s.data.toList.drop p = x.t.data.toList ++ tl r := hd
    have hlen : s.size - p = x.t.size + (tl r).length := by
      have := congrArg List.length hd'
      simp at this
      omega
    have hp : p < s.size := by omega
    obtain ⟨f, rfl⟩ : ∃ k, f = k + 1 := ⟨f - 1, by omega⟩
    have hb : blB (bt s.data.toList p) = false := by
      rw [show bt s.data.toList p = bt (s.data.toList.drop p) 0 by rw [bt_drop]; rfl, hd', bt_left g1]
      exact g5
    have hr : rmk (s.data.toList.drop p) = 0 := by rw [hd']; exact g6
    have hfs : fsP s p = fst x.t.data.toList (Lib.decodeGo x.t).2 := by
      unfold fsP
      rw [hd', fst_sp hsp g1]
      exact fst_wd g2 _
    have hn : (fsP s p).2.1 = x.t.size := by rw [hfs, g4, hxL]
    have hT : tokT s p = ⟨x.k, x.t, if x.k = 3 then x.v else 0, p, p + x.t.size⟩ := by
      unfold tokT
      rw [hn, hfs, g3, hx.v]
      congr 1
      apply bytes_ext
      rw [toList_cut, hd', show p + x.t.size - p = x.t.data.toList.length by omega]
      simp
    rw [toks_ok f acc hp hb hr (by rw [hfs]; exact g2), hn, hT]
    have hdr : s.data.toList.drop (p + x.t.size) = tl r := by
      rw [← List.drop_drop, hd', ← hxL]
      simp
    cases r with
    | nil =>
      rw [toks_end _ _ (by simp [tl] at hlen; omega)]
      simp [mkT]
    | cons y r =>
      have hp2 : p + x.t.size < s.size := by
        have : 0 < (tl (y :: r)).length := by simp [tl]
        omega
      obtain ⟨f, rfl⟩ : ∃ k, f = k + 1 := ⟨f - 1, by omega⟩
      rw [toks_blank f _ hp2 (by rw [show bt s.data.toList (p + x.t.size) = bt (s.data.toList.drop (p + x.t.size)) 0 by rw [bt_drop]; rfl, hdr]; rfl)]
      rw [toks_jn s (y :: r) (p + x.t.size + 1) f _ (by rw [← List.drop_drop, hdr]; rfl) (by simp) (fun z hz => hF z (List.mem_cons_of_mem _ hz)) (by omega)]
      simp [mkT]
theorem stray_all (s : ByteArray) (h : ∀ j, j < s.size → bt s.data.toList j < 128) (n : Nat) : ∀ p, s.size - p ≤ n → stray s s.size p = none := by
  induction n with
  | zero => intro p hp; exact stray_end _ (by omega)
  | succ n ih =>
    intro p hp
    by_cases hlt : p < s.size
    · rw [stray_asc hlt (h p hlt)]
      exact ih (p + 1) (by omega)
    · exact stray_end _ hlt
theorem fd_asc {x : Tj} (h : Fd x) : ∀ c ∈ x.t.data.toList, c.toNat < 128 := by
  obtain ⟨g1, g2, g3, g4, _⟩ := fst_go (m := []) (.inl rfl) h.al
  obtain ⟨_, _, o3⟩ := fst_ok _ _ g2
  intro c hc
  obtain ⟨j, hj, rfl⟩ := List.mem_iff_getElem.1 hc
  have := o3 j (by rw [g4]; exact hj)
  unfold bt List.getD at this
  rw [List.getElem?_eq_getElem hj] at this
  exact this
theorem jn_asc (ts : List Tj) (hF : ∀ x ∈ ts, Fd x) : ∀ c ∈ jn ts, c.toNat < 128 := by
  intro c hc
  cases ts with
  | nil => cases hc
  | cons x r =>
    rcases List.mem_append.1 hc with hc | hc
    · exact fd_asc (hF x List.mem_cons_self) c hc
    · unfold tl at hc
      obtain ⟨y, hy, hc⟩ := List.mem_flatMap.1 hc
      rcases List.mem_cons.1 hc with rfl | hc
      · decide
      · exact fd_asc (hF y (List.mem_cons_of_mem _ hy)) c hc
/-- What is printed is cut into the same tokens again. -/
theorem tokR_prt (l : List Tj) (ho : ∀ x ∈ l, okT x) (hf : l.all fmT = true) (hs : (prt l).length ≤ 65536) : tokR ⟨(prt l).toArray⟩ = .ok (mkT 0 (nE l) ++ [endT ⟨(prt l).toArray⟩]) := by
  have hF : ∀ x ∈ nE l, Fd x := by
    intro x hx
    obtain ⟨h1, h2⟩ := List.mem_filter.1 hx
    exact fd_of (ho x h1) (List.all_eq_true.1 hf x h1) (by simpa [kp] using h2)
  have hj : prt l = jn (nE l) := prt_jn l fun x hx h5 e => by
    have := fd_pos (fd_of (ho x hx) (List.all_eq_true.1 hf x hx) h5)
    rw [e] at this
    simp at this
  have hsz : (⟨(prt l).toArray⟩ : ByteArray).size = (prt l).length := by rw [← len_of]
  unfold tokR
  rw [if_neg (by omega), stray_all _ (fun j hj2 => by
    obtain ⟨c, hc, e⟩ := bt_mem (l := (prt l)) (j := j) (by omega)
    rw [e]
    rw [hj] at hc
    exact jn_asc _ hF c hc) _ 0 (Nat.le_refl _)]
  cases hn : nE l with
  | nil =>
    have e0 : prt l = [] := by rw [hj, hn]; rfl
    rw [e0]
    rfl
  | cons x r =>
    rw [← hn]
    have := toks_jn ⟨(prt l).toArray⟩ (nE l) 0 (⟨(prt l).toArray⟩ : ByteArray).size [] (by simpa using hj) (by rw [hn]; simp) hF (by omega)
    simpa using this
theorem mkT_len (ts : List Tj) : ∀ p, (mkT p ts).length = ts.length := by
  induction ts with
  | nil => intro p; rfl
  | cons x r ih => intro p; simp [mkT, ih]
theorem mkT_at (ts : List Tj) : ∀ (p i : Nat) (x : Tj), ts[i]? = some x → ∃ a b, (mkT p ts)[i]? = some ⟨x.k, x.t, if x.k = 3 then x.v else 0, a, b⟩ := by
  induction ts with
  | nil => intro p i x h; simp at h
  | cons y r ih =>
    intro p i x h
    cases i with
    | zero =>
      simp at h
      subst h
      exact ⟨_, _, rfl⟩
    | succ i => exact ih _ i x (by simpa using h)
theorem nE_at (l : List Tj) (k : Nat) (x : Tj) (h : l[k]? = some x) (h5 : ¬ x.k = 5) : (nE l)[(nE (l.take k)).length]? = some x := by
  have e : l = l.take k ++ x :: l.drop (k + 1) := by
    obtain ⟨hk, rfl⟩ := List.getElem?_eq_some_iff.1 h
    rw [← List.drop_eq_getElem_cons hk, List.take_append_drop]
  have e2 : nE l = nE (l.take k) ++ x :: nE (l.drop (k + 1)) := by
    conv => lhs; rw [e]
    unfold nE
    rw [List.filter_append, List.filter_cons_of_pos (by simp [kp, h5])]
  rw [e2, List.getElem?_append_right (Nat.le_refl _)]
  simp
theorem nE_next (l : List Tj) (k : Nat) (x : Tj) (h : l[k]? = some x) : (nE (l.take (k + 1))).length = (nE (l.take k)).length + if x.k = 5 then 0 else 1 := by
  rw [take_next h]
  unfold nE
  rw [List.filter_append, List.length_append]
  by_cases h5 : x.k = 5
  · simp [kp, h5]
  · simp [kp, h5]
end Go.Proofs.YtgdbfedagdlgkaaDoor
