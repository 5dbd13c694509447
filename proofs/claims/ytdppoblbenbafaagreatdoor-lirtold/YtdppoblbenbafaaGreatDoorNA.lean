/- The same programs have the same text. A number's text says the number, and has neither blanks nor line ends. What an instruction does not use is nothing. Lines of words: names and numbers have no blank and no line end; a line says its words. Equal texts of right programs mean the same program. -/
import Derived.Test.YtdppoblbenbafaaGreatDoorMC
namespace Go.Proofs.YtdppoblbenbafaaGreatDoor
section
open Go.RowKit Go.Shelf
theorem inE_line {x y : Ins} (h : inE x y = true) : lnL x = lnL y := by
  unfold inE at h
  simp only [Bool.and_eq_true, beq_iff_eq, decide_eq_true_eq] at h
  obtain ⟨h1, h2, h3, h4, h5, h6, h7, h8, h9⟩ := h
  unfold lnL lnS
  rw [h1, h2, h3, h4, h5, h6, h7, h8, h9]
theorem alE_lines : ∀ {a b : List Ins}, alE inE a b = true → lnsT a = lnsT b
  | [], [], _ => rfl
  | x :: a, y :: b, h => by
    unfold alE at h
    simp only [Bool.and_eq_true] at h
    have t := alE_lines h.2
    unfold lnsT at *
    rw [List.flatMap_cons, List.flatMap_cons, inE_line h.1, t]
  | [], _ :: _, h => by cases h
  | _ :: _, [], h => by cases h
theorem alE_blks : ∀ {a b : List Blk} (k : Nat), alE blE a b = true → blsT k a = blsT k b
  | [], [], _, _ => rfl
  | x :: a, y :: b, k, h => by
    unfold alE at h
    simp only [Bool.and_eq_true] at h
    have t := alE_blks (k + 1) h.2
    unfold blsT
    rw [t, alE_lines h.1]
  | [], _ :: _, _, h => by cases h
  | _ :: _, [], _, h => by cases h
theorem fnE_text {x y : Fun} (h : fnE x y = true) : txF x = txF y := by
  unfold fnE at h
  simp only [Bool.and_eq_true, beq_iff_eq, decide_eq_true_eq] at h
  obtain ⟨h1, h2, h3, h4, h5⟩ := h
  unfold txF hdL
  rw [h1, h2, h3, h4, alE_blks 0 h5]
theorem alE_text : ∀ {a b : List Fun}, alE fnE a b = true → txP a = txP b
  | [], [], _ => rfl
  | x :: a, y :: b, h => by
    unfold alE at h
    simp only [Bool.and_eq_true] at h
    have t := alE_text h.2
    unfold txP at *
    rw [List.flatMap_cons, List.flatMap_cons, fnE_text h.1, t]
  | [], _ :: _, h => by cases h
  | _ :: _, [], h => by cases h
/-- Two texts that part at the same byte. -/
theorem cut_at {c : UInt8} : ∀ {a b x y : List UInt8}, c ∉ a → c ∉ b → a ++ c :: x = b ++ c :: y → a = b ∧ x = y
  | [], [], x, y, _, _, h => by simpa using h
  | [], d :: b, x, y, _, hb, h => by
    simp at h
    exact absurd h.1 (fun e => hb (by simp [e]))
  | d :: a, [], x, y, ha, _, h => by
    simp at h
    exact absurd h.1 (fun e => ha (by simp [← e]))
  | d :: a, e :: b, x, y, ha, hb, h => by
    simp at h
    obtain ⟨t1, t2⟩ := cut_at (c := c) (a := a) (b := b) (fun q => ha (by simp [q])) (fun q => hb (by simp [q])) h.2
    exact ⟨by rw [h.1, t1], t2⟩
end
section
open Go.RowKit Go.Shelf
theorem dig_nat {u : Nat} (h : u < 10) : (UInt8.ofNat (48 + u)).toNat = 48 + u := by
  rw [UInt8.toNat_ofNat']
  omega
theorem dec_chars : ∀ (u : Nat) (c : UInt8), c ∈ Lib.decDigits u → 48 ≤ c.toNat ∧ c.toNat ≤ 57 := fun u => by
  induction u using Nat.strongRecOn with
  | _ u ih =>
    intro c hc
    rw [Lib.decDigits] at hc
    split at hc
    · rename_i h
      have e : c = UInt8.ofNat (48 + u) := List.mem_singleton.1 hc
      have := dig_nat h
      rw [e]
      omega
    · rename_i h
      rcases List.mem_append.1 hc with hc | hc
      · exact ih (u / 10) (by omega) c hc
      · have e : c = UInt8.ofNat (48 + u % 10) := List.mem_singleton.1 hc
        have := dig_nat (u := u % 10) (by omega)
        rw [e]
        omega
/-- What digits say. -/
def dgV (l : List UInt8) : Nat := l.foldl (fun a c => a * 10 + (c.toNat - 48)) 0
theorem dgV_snoc (l : List UInt8) (c : UInt8) : dgV (l ++ [c]) = dgV l * 10 + (c.toNat - 48) := by simp [dgV]
theorem dgV_dec : ∀ u : Nat, dgV (Lib.decDigits u) = u := fun u => by
  induction u using Nat.strongRecOn with
  | _ u ih =>
    rw [Lib.decDigits]
    split
    · rename_i h
      show dgV ([] ++ [_]) = _
      rw [dgV_snoc, dig_nat h]
      simp [dgV]
    · rename_i h
      rw [dgV_snoc, ih (u / 10) (by omega), dig_nat (by omega)]
      omega
theorem dec_inj {a b : Nat} (h : Lib.decDigits a = Lib.decDigits b) : a = b := by rw [← dgV_dec a, h, dgV_dec]
theorem itoa_chars (n : Int) (c : UInt8) (h : c ∈ Lib.itoa n) : c = 45 ∨ (48 ≤ c.toNat ∧ c.toNat ≤ 57) := by
  unfold Lib.itoa at h
  split at h
  · rcases List.mem_cons.1 h with h | h
    · exact .inl h
    · exact .inr (dec_chars _ c h)
  · exact .inr (dec_chars _ c h)
theorem itoa_no (n : Int) (c : UInt8) (hc : c.toNat ≤ 32) : c ∉ Lib.itoa n := fun h => by
  rcases itoa_chars n c h with e | ⟨e, _⟩
  · rw [e] at hc
    exact absurd hc (by decide)
  · omega
theorem itoa_inj {a b : Int} (h : Lib.itoa a = Lib.itoa b) : a = b := by
  have no : ∀ u r, Lib.decDigits u ≠ 45 :: r := fun u r e => by
    have := dec_chars u 45 (by rw [e]; simp)
    exact absurd this.1 (by decide)
  unfold Lib.itoa at h
  split at h <;> split at h
  · have := dec_inj (List.cons.inj h).2
    omega
  · exact absurd h.symm (no _ _)
  · exact absurd h (no _ _)
  · have := dec_inj h
    omega
end
section
open Go.RowKit Go.Shelf
theorem zero_1 {f : Fnh} {i : Ins} (h : inR f i = true) (hk : i.op = 1) : i.a = 0 ∧ i.b = 0 ∧ i.nm.data.toList = [] ∧ i.gs = [] ∧ i.to = 0 ∧ i.el = 0 := by
  unfold inR fdR at h
  rw [hk] at h
  simp [fmL, flB, toR] at h
  grind
theorem zero_2 {f : Fnh} {i : Ins} (h : inR f i = true) (hk : i.op = 2) : i.b = 0 ∧ i.n = 0 ∧ i.nm.data.toList = [] ∧ i.gs = [] ∧ i.to = 0 ∧ i.el = 0 := by
  unfold inR fdR at h
  rw [hk] at h
  simp [fmL, flB, toR] at h
  grind
theorem zero_3 {f : Fnh} {i : Ins} (h : inR f i = true) (hk : i.op = 3) : i.n = 0 ∧ i.gs = [] ∧ i.to = 0 ∧ i.el = 0 := by
  unfold inR fdR at h
  rw [hk] at h
  simp [fmL, flB, toR] at h
  grind
theorem zero_4 {f : Fnh} {i : Ins} (h : inR f i = true) (hk : i.op = 4) : i.b = 0 ∧ i.nm.data.toList = [] ∧ i.gs = [] ∧ i.to = 0 ∧ i.el = 0 := by
  unfold inR fdR at h
  rw [hk] at h
  simp [fmL, flB, toR] at h
  grind
theorem zero_5 {f : Fnh} {i : Ins} (h : inR f i = true) (hk : i.op = 5) : i.d = 0 ∧ i.nm.data.toList = [] ∧ i.gs = [] ∧ i.to = 0 ∧ i.el = 0 := by
  unfold inR fdR at h
  rw [hk] at h
  simp [fmL, flB, toR] at h
  grind
theorem zero_6 {f : Fnh} {i : Ins} (h : inR f i = true) (hk : i.op = 6) : i.a = 0 ∧ i.b = 0 ∧ i.nm.data.toList = [] ∧ i.gs = [] ∧ i.to = 0 ∧ i.el = 0 := by
  unfold inR fdR at h
  rw [hk] at h
  simp [fmL, flB, toR] at h
  grind
theorem zero_7 {f : Fnh} {i : Ins} (h : inR f i = true) (hk : i.op = 7) : i.a = 0 ∧ i.b = 0 ∧ i.n = 0 ∧ i.to = 0 ∧ i.el = 0 := by
  unfold inR fdR at h
  rw [hk] at h
  simp [fmL, flB, toR] at h
  grind
theorem zero_8 {f : Fnh} {i : Ins} (h : inR f i = true) (hk : i.op = 8) : i.d = 0 ∧ i.a = 0 ∧ i.b = 0 ∧ i.n = 0 ∧ i.nm.data.toList = [] ∧ i.gs = [] ∧ i.el = 0 := by
  unfold inR fdR at h
  rw [hk] at h
  simp [fmL, flB, toR] at h
  grind
theorem zero_9 {f : Fnh} {i : Ins} (h : inR f i = true) (hk : i.op = 9) : i.d = 0 ∧ i.b = 0 ∧ i.n = 0 ∧ i.nm.data.toList = [] ∧ i.gs = [] := by
  unfold inR fdR at h
  rw [hk] at h
  simp [fmL, flB, toR] at h
  grind
theorem zero_10 {f : Fnh} {i : Ins} (h : inR f i = true) (hk : i.op = 10) : i.d = 0 ∧ i.b = 0 ∧ i.n = 0 ∧ i.nm.data.toList = [] ∧ i.gs = [] ∧ i.to = 0 ∧ i.el = 0 := by
  unfold inR fdR at h
  rw [hk] at h
  simp [fmL, flB, toR] at h
  grind
theorem zero_11 {f : Fnh} {i : Ins} (h : inR f i = true) (hk : i.op = 11) : i.d = 0 ∧ i.a = 0 ∧ i.b = 0 ∧ i.nm.data.toList = [] ∧ i.gs = [] ∧ i.to = 0 ∧ i.el = 0 := by
  unfold inR fdR at h
  rw [hk] at h
  simp [fmL, flB, toR] at h
  grind
end
section
open Go.RowKit Go.Shelf
/-- Neither a blank nor a line end. -/
def noB (l : List UInt8) : Prop := (32 : UInt8) ∉ l ∧ (10 : UInt8) ∉ l
theorem nm_noB {l : List UInt8} (h : nmB l = true) : noB l := by
  unfold nmB at h
  simp only [Bool.and_eq_true, List.all_eq_true] at h
  obtain ⟨_, _, _, h⟩ := h
  exact ⟨fun e => absurd (h _ e) (by decide), fun e => absurd (h _ e) (by decide)⟩
theorem op_noB {l : List UInt8} (h : opB l = true) : noB l := by
  unfold opB at h
  simp only [List.contains_eq_mem, decide_eq_true_eq, List.mem_cons, List.not_mem_nil, or_false] at h
  unfold noB
  rcases h with h | h | h | h | h | h | h | h | h | h | h | h | h | h <;> subst h <;> decide
theorem rt_noB {l : List UInt8} {k : Int} (h : rtA l = some k) : noB l := by
  unfold rtA at h
  unfold noB
  split at h
  · rename_i e; subst e; decide
  · split at h
    · rename_i e; subst e; decide
    · split at h
      · rename_i e; subst e; decide
      · split at h
        · rename_i e; subst e; decide
        · cases h
theorem itoa_noB (n : Int) : noB (Lib.itoa n) := ⟨itoa_no n 32 (by decide), itoa_no n 10 (by decide)⟩
theorem name_noB {f : Fnh} {i : Ins} (h : inR f i = true) : i.op = 3 ∨ i.op = 7 → noB i.nm.data.toList := by
  unfold inR at h
  simp only [Bool.and_eq_true] at h
  rintro (e | e)
  · have t := h.2.1
    unfold nuR at t
    rw [if_pos e] at t
    exact op_noB t
  · have t := h.2.2
    unfold caR at t
    rw [if_pos e] at t
    cases hr : rtA i.nm.data.toList with
    | some k => exact rt_noB hr
    | none =>
      rw [hr] at t
      simp only [Bool.and_eq_true] at t
      exact nm_noB t.1
theorem flat_no {r : List (List UInt8)} (h : ∀ x ∈ r, noB x) : (10 : UInt8) ∉ r.flatMap (fun y => 32 :: y) := by
  intro e
  obtain ⟨x, hx, hm⟩ := List.mem_flatMap.1 e
  rcases List.mem_cons.1 hm with q | q
  · exact absurd q (by decide)
  · exact (h x hx).2 q
theorem flat_inj : ∀ {r s : List (List UInt8)}, (∀ x ∈ r, noB x) → (∀ x ∈ s, noB x) → r.flatMap (fun y => (32 : UInt8) :: y) = s.flatMap (fun y => 32 :: y) → r = s
  | [], [], _, _, _ => rfl
  | [], _ :: _, _, _, h => by simp at h
  | _ :: _, [], _, _, h => by simp at h
  | x :: r, y :: s, hr, hs, h => by
    simp only [List.flatMap_cons, List.cons_append, List.cons.injEq, true_and] at h
    have nx := (hr x (by simp)).1
    have ny := (hs y (by simp)).1
    have hr2 : ∀ z ∈ r, noB z := fun z hz => hr z (by simp [hz])
    have hs2 : ∀ z ∈ s, noB z := fun z hz => hs z (by simp [hz])
    cases r with
    | nil =>
      cases s with
      | nil => simpa using h
      | cons z s =>
        simp at h
        exact absurd (by rw [h]; simp) nx
    | cons z r =>
      cases s with
      | nil =>
        simp at h
        exact absurd (by rw [← h]; simp) ny
      | cons u s =>
        rw [List.flatMap_cons, List.flatMap_cons, List.cons_append, List.cons_append] at h
        obtain ⟨e1, e2⟩ := cut_at nx ny h
        have t := flat_inj hr2 hs2 (by rw [List.flatMap_cons, List.flatMap_cons, List.cons_append, List.cons_append, e2])
        rw [e1, t]
/-- A line, and what comes behind it. -/
theorem line_inj {xs ys : List (List UInt8)} {A B : List UInt8} (hx : xs ≠ []) (hy : ys ≠ []) (nx : ∀ x ∈ xs, noB x) (ny : ∀ x ∈ ys, noB x) (h : lnJ xs ++ A = lnJ ys ++ B) : xs = ys ∧ A = B := by
  cases xs with
  | nil => exact absurd rfl hx
  | cons x r =>
    cases ys with
    | nil => exact absurd rfl hy
    | cons y s =>
      unfold lnJ at h
      rw [join_cons, join_cons, List.append_assoc _ [10], List.append_assoc _ [10]] at h
      have n1 : (10 : UInt8) ∉ x ++ r.flatMap (fun y => 32 :: y) := fun e => by
        rcases List.mem_append.1 e with e | e
        · exact (nx x (by simp)).2 e
        · exact flat_no (fun z hz => nx z (by simp [hz])) e
      have n2 : (10 : UInt8) ∉ y ++ s.flatMap (fun y => 32 :: y) := fun e => by
        rcases List.mem_append.1 e with e | e
        · exact (ny y (by simp)).2 e
        · exact flat_no (fun z hz => ny z (by simp [hz])) e
      obtain ⟨e1, e2⟩ := cut_at n1 n2 h
      refine ⟨flat_inj nx ny ?_, e2⟩
      rw [List.flatMap_cons, List.flatMap_cons, List.cons_append, List.cons_append, e1]
end
section
open Go.RowKit Go.Shelf
set_option maxHeartbeats 4000000
theorem itoas_inj : ∀ {a b : List Int}, a.map Lib.itoa = b.map Lib.itoa → a = b
  | [], [], _ => rfl
  | [], _ :: _, h => by cases h
  | _ :: _, [], h => by cases h
  | x :: a, y :: b, h => by
    simp only [List.map_cons, List.cons.injEq] at h
    rw [itoa_inj h.1, itoas_inj h.2]
/-- The operation that a word names. -/
def dcd (w : List UInt8) : Int := if w = [9, 99, 111, 110, 115, 116] then 1 else if w = [9, 109, 111, 118, 101] then 2 else if w = [9, 98, 105, 110] then 3 else if w = [9, 108, 111, 97, 100] then 4 else if w = [9, 115, 116, 111, 114, 101] then 5 else if w = [9, 102, 114, 97, 109, 101] then 6 else if w = [9, 99, 97, 108, 108] then 7 else if w = [9, 106, 117, 109, 112] then 8 else if w = [9, 105, 102] then 9 else if w = [9, 114, 101, 116] then 10 else if w = [9, 116, 114, 97, 112] then 11 else 0
theorem wd_head (i : Ins) (h1 : 1 ≤ i.op) (h2 : i.op ≤ 11) : ∃ w r, wdL i = w :: r ∧ dcd w = i.op := by
  rcases (by omega : i.op = 1 ∨ i.op = 2 ∨ i.op = 3 ∨ i.op = 4 ∨ i.op = 5 ∨ i.op = 6 ∨ i.op = 7 ∨ i.op = 8 ∨ i.op = 9 ∨ i.op = 10 ∨ i.op = 11) with h | h | h | h | h | h | h | h | h | h | h <;> (unfold wdL; rw [h]; exact ⟨_, _, rfl, by decide⟩)
theorem wd_op {x y : Ins} (hx : GoodI x) (hy : GoodI y) (h : wdL x = wdL y) : x.op = y.op := by
  obtain ⟨w, r, e1, e2⟩ := wd_head x hx.o1 hx.o2
  obtain ⟨v, s, e3, e4⟩ := wd_head y hy.o1 hy.o2
  rw [e1, e3] at h
  rw [← e2, ← e4, (List.cons.inj h).1]
theorem wd_noB {f : Fnh} {i : Ins} (hi : inR f i = true) (hg : GoodI i) : ∀ x ∈ wdL i, noB x := by
  have hn := name_noB hi
  have o1 := hg.o1
  have o2 := hg.o2
  have ht := itoa_noB
  have hm : ∀ x ∈ i.gs.map Lib.itoa, noB x := fun x hx => by
    obtain ⟨y, _, rfl⟩ := List.mem_map.1 hx
    exact itoa_noB y
  intro x hx
  unfold wdL at hx
  rcases (by omega : i.op = 1 ∨ i.op = 2 ∨ i.op = 3 ∨ i.op = 4 ∨ i.op = 5 ∨ i.op = 6 ∨ i.op = 7 ∨ i.op = 8 ∨ i.op = 9 ∨ i.op = 10 ∨ i.op = 11) with h | h | h | h | h | h | h | h | h | h | h
  · rw [h] at hx hn
    simp only [Int.reduceEq, if_true, if_false, List.mem_append, List.mem_singleton, or_assoc] at hx
    rcases hx with e | e | e
    · rw [e]; unfold noB; decide
    · rw [e]; exact ht _
    · rw [e]; exact ht _
  · rw [h] at hx hn
    simp only [Int.reduceEq, if_true, if_false, List.mem_append, List.mem_singleton, or_assoc] at hx
    rcases hx with e | e | e
    · rw [e]; unfold noB; decide
    · rw [e]; exact ht _
    · rw [e]; exact ht _
  · rw [h] at hx hn
    simp only [Int.reduceEq, if_true, if_false, List.mem_append, List.mem_singleton, or_assoc] at hx
    rcases hx with e | e | e | e | e
    · rw [e]; unfold noB; decide
    · rw [e]; exact ht _
    · rw [e]; exact hn (by decide)
    · rw [e]; exact ht _
    · rw [e]; exact ht _
  · rw [h] at hx hn
    simp only [Int.reduceEq, if_true, if_false, List.mem_append, List.mem_singleton, or_assoc] at hx
    rcases hx with e | e | e | e
    · rw [e]; unfold noB; decide
    · rw [e]; exact ht _
    · rw [e]; exact ht _
    · rw [e]; exact ht _
  · rw [h] at hx hn
    simp only [Int.reduceEq, if_true, if_false, List.mem_append, List.mem_singleton, or_assoc] at hx
    rcases hx with e | e | e | e
    · rw [e]; unfold noB; decide
    · rw [e]; exact ht _
    · rw [e]; exact ht _
    · rw [e]; exact ht _
  · rw [h] at hx hn
    simp only [Int.reduceEq, if_true, if_false, List.mem_append, List.mem_singleton, or_assoc] at hx
    rcases hx with e | e | e
    · rw [e]; unfold noB; decide
    · rw [e]; exact ht _
    · rw [e]; exact ht _
  · rw [h] at hx hn
    simp only [Int.reduceEq, if_true, if_false, List.mem_append, List.mem_singleton, or_assoc] at hx
    rcases hx with e | e | e | e
    · rw [e]; unfold noB; decide
    · rw [e]; exact ht _
    · rw [e]; exact hn (by decide)
    · exact hm x e
  · rw [h] at hx hn
    simp only [Int.reduceEq, if_true, if_false, List.mem_append, List.mem_singleton] at hx
    rcases hx with e | e
    · rw [e]; unfold noB; decide
    · rw [e]; exact ht _
  · rw [h] at hx hn
    simp only [Int.reduceEq, if_true, if_false, List.mem_append, List.mem_singleton, or_assoc] at hx
    rcases hx with e | e | e | e
    · rw [e]; unfold noB; decide
    · rw [e]; exact ht _
    · rw [e]; exact ht _
    · rw [e]; exact ht _
  · rw [h] at hx hn
    simp only [Int.reduceEq, if_true, if_false, List.mem_append, List.mem_singleton] at hx
    rcases hx with e | e
    · rw [e]; unfold noB; decide
    · rw [e]; exact ht _
  · rw [h] at hx hn
    simp only [Int.reduceEq, if_true, if_false, List.mem_append, List.mem_singleton] at hx
    rcases hx with e | e
    · rw [e]; unfold noB; decide
    · rw [e]; exact ht _
theorem ba_nil {s : ByteArray} (h : s.data.toList = []) : s = ⟨#[]⟩ := ba_ext (by simpa using h)
theorem wd_inE {f g : Fnh} {x y : Ins} (hx : inR f x = true) (hy : inR g y = true) (gx : GoodI x) (gy : GoodI y) (h : wdL x = wdL y) : inE x y = true := by
  have ho := wd_op gx gy h
  have o1 := gx.o1
  have o2 := gx.o2
  unfold wdL at h
  rw [← ho] at h
  rcases (by omega : x.op = 1 ∨ x.op = 2 ∨ x.op = 3 ∨ x.op = 4 ∨ x.op = 5 ∨ x.op = 6 ∨ x.op = 7 ∨ x.op = 8 ∨ x.op = 9 ∨ x.op = 10 ∨ x.op = 11) with e | e | e | e | e | e | e | e | e | e | e
  · have zx := zero_1 hx e
    have zy := zero_1 hy (ho ▸ e)
    rw [e] at h
    simp only [Int.reduceEq, if_true, if_false, List.cons_append, List.nil_append, List.cons.injEq, true_and, and_true] at h
    unfold inE
    simp only [Bool.and_eq_true, beq_iff_eq, decide_eq_true_eq]
    have i1 := @itoa_inj
    have i2 := @itoas_inj
    have i3 : ∀ (a b : ByteArray), a.data.toList = b.data.toList → a = b := fun a b q => ba_ext q
    grind
  · have zx := zero_2 hx e
    have zy := zero_2 hy (ho ▸ e)
    rw [e] at h
    simp only [Int.reduceEq, if_true, if_false, List.cons_append, List.nil_append, List.cons.injEq, true_and, and_true] at h
    unfold inE
    simp only [Bool.and_eq_true, beq_iff_eq, decide_eq_true_eq]
    have i1 := @itoa_inj
    have i2 := @itoas_inj
    have i3 : ∀ (a b : ByteArray), a.data.toList = b.data.toList → a = b := fun a b q => ba_ext q
    grind
  · have zx := zero_3 hx e
    have zy := zero_3 hy (ho ▸ e)
    rw [e] at h
    simp only [Int.reduceEq, if_true, if_false, List.cons_append, List.nil_append, List.cons.injEq, true_and, and_true] at h
    unfold inE
    simp only [Bool.and_eq_true, beq_iff_eq, decide_eq_true_eq]
    have i1 := @itoa_inj
    have i2 := @itoas_inj
    have i3 : ∀ (a b : ByteArray), a.data.toList = b.data.toList → a = b := fun a b q => ba_ext q
    grind
  · have zx := zero_4 hx e
    have zy := zero_4 hy (ho ▸ e)
    rw [e] at h
    simp only [Int.reduceEq, if_true, if_false, List.cons_append, List.nil_append, List.cons.injEq, true_and, and_true] at h
    unfold inE
    simp only [Bool.and_eq_true, beq_iff_eq, decide_eq_true_eq]
    have i1 := @itoa_inj
    have i2 := @itoas_inj
    have i3 : ∀ (a b : ByteArray), a.data.toList = b.data.toList → a = b := fun a b q => ba_ext q
    grind
  · have zx := zero_5 hx e
    have zy := zero_5 hy (ho ▸ e)
    rw [e] at h
    simp only [Int.reduceEq, if_true, if_false, List.cons_append, List.nil_append, List.cons.injEq, true_and, and_true] at h
    unfold inE
    simp only [Bool.and_eq_true, beq_iff_eq, decide_eq_true_eq]
    have i1 := @itoa_inj
    have i2 := @itoas_inj
    have i3 : ∀ (a b : ByteArray), a.data.toList = b.data.toList → a = b := fun a b q => ba_ext q
    grind
  · have zx := zero_6 hx e
    have zy := zero_6 hy (ho ▸ e)
    rw [e] at h
    simp only [Int.reduceEq, if_true, if_false, List.cons_append, List.nil_append, List.cons.injEq, true_and, and_true] at h
    unfold inE
    simp only [Bool.and_eq_true, beq_iff_eq, decide_eq_true_eq]
    have i1 := @itoa_inj
    have i2 := @itoas_inj
    have i3 : ∀ (a b : ByteArray), a.data.toList = b.data.toList → a = b := fun a b q => ba_ext q
    grind
  · have zx := zero_7 hx e
    have zy := zero_7 hy (ho ▸ e)
    rw [e] at h
    simp only [Int.reduceEq, if_true, if_false, List.cons_append, List.nil_append, List.cons.injEq, true_and] at h
    unfold inE
    simp only [Bool.and_eq_true, beq_iff_eq, decide_eq_true_eq]
    have i1 := @itoa_inj
    have i2 := @itoas_inj
    have i3 : ∀ (a b : ByteArray), a.data.toList = b.data.toList → a = b := fun a b q => ba_ext q
    grind
  · have zx := zero_8 hx e
    have zy := zero_8 hy (ho ▸ e)
    rw [e] at h
    simp only [Int.reduceEq, if_true, if_false, List.cons_append, List.nil_append, List.cons.injEq, true_and, and_true] at h
    unfold inE
    simp only [Bool.and_eq_true, beq_iff_eq, decide_eq_true_eq]
    have i1 := @itoa_inj
    have i2 := @itoas_inj
    have i3 : ∀ (a b : ByteArray), a.data.toList = b.data.toList → a = b := fun a b q => ba_ext q
    grind
  · have zx := zero_9 hx e
    have zy := zero_9 hy (ho ▸ e)
    rw [e] at h
    simp only [Int.reduceEq, if_true, if_false, List.cons_append, List.nil_append, List.cons.injEq, true_and, and_true] at h
    unfold inE
    simp only [Bool.and_eq_true, beq_iff_eq, decide_eq_true_eq]
    have i1 := @itoa_inj
    have i2 := @itoas_inj
    have i3 : ∀ (a b : ByteArray), a.data.toList = b.data.toList → a = b := fun a b q => ba_ext q
    grind
  · have zx := zero_10 hx e
    have zy := zero_10 hy (ho ▸ e)
    rw [e] at h
    simp only [Int.reduceEq, if_true, if_false, List.cons_append, List.nil_append, List.cons.injEq, true_and, and_true] at h
    unfold inE
    simp only [Bool.and_eq_true, beq_iff_eq, decide_eq_true_eq]
    have i1 := @itoa_inj
    have i2 := @itoas_inj
    have i3 : ∀ (a b : ByteArray), a.data.toList = b.data.toList → a = b := fun a b q => ba_ext q
    grind
  · have zx := zero_11 hx e
    have zy := zero_11 hy (ho ▸ e)
    rw [e] at h
    simp only [Int.reduceEq, if_true, if_false, List.cons_append, List.nil_append, List.cons.injEq, true_and, and_true] at h
    unfold inE
    simp only [Bool.and_eq_true, beq_iff_eq, decide_eq_true_eq]
    have i1 := @itoa_inj
    have i2 := @itoas_inj
    have i3 : ∀ (a b : ByteArray), a.data.toList = b.data.toList → a = b := fun a b q => ba_ext q
    grind
end
end Go.Proofs.YtdppoblbenbafaaGreatDoor
