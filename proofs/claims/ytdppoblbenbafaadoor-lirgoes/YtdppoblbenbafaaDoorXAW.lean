/- A run, plainly: what a right program keeps. One step, whichever. -/
import Derived.Test.YtdppoblbenbafaaDoorRI
namespace Go.Proofs.YtdppoblbenbafaaDoor
section
open Go.RowKit Go.Shelf
/-- A program that is right, its numbers of 64 bits. -/
structure PrF (p : List Fun) : Prop where
  pr : prB p = true
  n64 : N64 p
  bl : ∀ x ∈ p, x.h.bl = x.bs.length
def AtF (p : List Fun) (c : Cal) : Prop := ∃ f bl i, CalF p c f bl i
def AnsL : Cal → List Cal → Prop
  | _, [] => True
  | c, t :: r => (c.an = -1 ∨ (0 ≤ c.an ∧ c.an < t.rg.length)) ∧ AnsL t r
/-- The words of all blocks of the heap. -/
def hA (x : Par) : Nat := if x.kd = 2 then x.ws.length else 0
def sumH (l : List Par) : Nat := (l.map hA).sum
theorem sumH_set : ∀ (l : List Par) (k : Nat) (a b : Par), l[k]? = some a → sumH (l.set k b) + hA a = sumH l + hA b
  | [], _, _, _, h => by cases h
  | x :: l, 0, a, b, h => by cases h; simp [sumH]; omega
  | x :: l, k + 1, a, b, h => by
    have := sumH_set l k a b h
    simp [sumH] at this ⊢
    omega
theorem sumH_filter (l : List Par) : sumH (l.filter fun a => decide (¬ (kyA a).1 = 0)) = sumH l := by
  induction l with
  | nil => rfl
  | cons x l ih =>
    rw [List.filter_cons]
    by_cases h : x.kd = 0
    · rw [if_neg (by simp [kyA, h]), ih]
      simp [sumH, hA, h]
    · rw [if_pos (by simp [kyA, h])]
      simp [sumH] at ih ⊢
      exact ih
theorem sumH_td (l : List Par) (e : Int) : sumH (tdK kyA l e).1 = sumH l := by
  unfold tdK
  split
  · rfl
  · exact sumH_filter l
theorem enK_ok {l : List Par} {e kind t c : Int} (h : (enK kyA nilA l e kind t c).1 = true) : ∃ (k : Nat) (a : Par), l[k]? = some a ∧ a.kd = kind ∧ a.ad = t ∧ ((kyA a).2.2 : Int) = c ∧ (enK kyA nilA l e kind t c).2.1 = (tdK kyA (l.set k (nilA t)) (e + 1)).1 := by
  unfold enK at h ⊢
  split at h
  · cases h
  · rename_i k hk
    split at h
    · cases h
    · rename_i a ha
      split at h
      · rename_i hc
        rw [if_pos hc]
        exact ⟨k, a, ha, hc.1, hc.2.1, hc.2.2, rfl⟩
      · cases h
theorem enK_no {l : List Par} {e kind t c : Int} (h : (enK kyA nilA l e kind t c).1 = false) : (enK kyA nilA l e kind t c).2.1 = l := by
  unfold enK at h ⊢
  cases hk : fdK (l.map kyA) t with
  | zero => rfl
  | succ k =>
    rw [hk] at h
    simp only [] at h ⊢
    cases ha : l[k]? with
    | none => rfl
    | some a =>
      rw [ha] at h
      simp only [] at h ⊢
      split at h
      · cases h
      · rename_i hc; rw [if_neg hc]
/-- A part of memory that is right. -/
structure PaF (x : Par) : Prop where
  ad : 0 ≤ x.ad
  ln : x.ws.length ≤ 4096
  wd : ∀ v ∈ x.ws, I64 v
theorem enK_pa {l : List Par} (h : ∀ x ∈ l, PaF x) (e kind t c : Int) : ∀ x ∈ (enK kyA nilA l e kind t c).2.1, PaF x := by
  cases hb : (enK kyA nilA l e kind t c).1 with
  | false => rw [enK_no hb]; exact h
  | true =>
    obtain ⟨k, a, ha, _, hat, _, he⟩ := enK_ok hb
    intro x hx
    rcases enK_mem kyA nilA l e kind t c x hx with hx | hx
    · exact h x hx
    · rw [hx]
      have := (h a (List.mem_of_getElem? ha)).ad
      exact ⟨by show 0 ≤ t; omega, by simp [nilA], by simp [nilA]⟩
theorem enK_one {l : List Par} (e t c : Int) : sumH (enK kyA nilA l e 1 t c).2.1 = sumH l := by
  cases hb : (enK kyA nilA l e 1 t c).1 with
  | false => rw [enK_no hb]
  | true =>
    obtain ⟨k, a, ha, hk, _, _, he⟩ := enK_ok hb
    rw [he, sumH_td]
    have := sumH_set l k a (nilA t) ha
    simp [hA, hk, nilA] at this
    exact this
theorem enK_two {l : List Par} {e t c : Int} (hb : (enK kyA nilA l e 2 t c).1 = true) : (sumH (enK kyA nilA l e 2 t c).2.1 : Int) = sumH l - c ∧ ∃ a ∈ l, (a.ws.length : Int) = c := by
  obtain ⟨k, a, ha, hk, _, hc, he⟩ := enK_ok hb
  rw [he, sumH_td]
  have := sumH_set l k a (nilA t) ha
  simp [kyA, hk] at hc
  rw [show hA (nilA t) = 0 by simp [hA, nilA], show hA a = a.ws.length by simp [hA, hk]] at this
  exact ⟨by omega, a, List.mem_of_getElem? ha, hc⟩
/-- A run that a right program may come to. -/
structure Wf (p : List Fun) (s : St) : Prop where
  top : AtF p s.top
  low : ∀ c ∈ s.low, AtF p c
  ans : AnsL s.top s.low
  lo : s.low.length ≤ 999
  nx : 0 ≤ s.nx ∧ s.nx ≤ 65536 + ((s.st : Int) + 1) * 32776
  hp : 0 ≤ s.hp ∧ s.hp ≤ 8192
  en : 0 ≤ s.en ∧ s.en ≤ s.st
  ps : s.ps.length ≤ s.st + 1
  out : s.out.length ≤ s.st * 65
  hs : s.hp = sumH s.ps
  pa : ∀ x ∈ s.ps, PaF x
theorem ins_facts_at {p : List Fun} (hp : PrF p) {c : Cal} {f : Fun} {bl : Blk} {i : Ins} (hc : CalF p c f bl i) : FnF f ∧ InsF f.h i (fdF p i.nm) ∧ (endB i.op = true ↔ c.j + 1 = bl.l.length) ∧ bl.l.length ≤ 4096 ∧ c.j < bl.l.length ∧ f.h.bl = f.bs.length ∧ I64 i.n ∧ i ∈ bl.l := by
  obtain ⟨hF, hB, _⟩ := prog_fn hp.pr hc.hf
  obtain ⟨h1, h2⟩ := blk_facts (hB _ _ hc.hb)
  obtain ⟨h3, h4⟩ := h2 _ _ hc.hi
  exact ⟨hF, h3, h4, h1.2, (List.getElem?_eq_some_iff.1 hc.hi).1, hp.bl f (List.mem_of_getElem? hc.hf), hp.n64 f (List.mem_of_getElem? hc.hf) bl (List.mem_of_getElem? hc.hb) i (List.mem_of_getElem? hc.hi), List.mem_of_getElem? hc.hi⟩
/-- At a block's beginning. -/
theorem at_block {p : List Fun} (hp : PrF p) {c : Cal} {f : Fun} (hf : p[c.k]? = some f) (hb : c.b < f.bs.length) (hj : c.j = 0) (ln : c.rg.length = f.h.rg.toNat) (rg : ∀ v ∈ c.rg, I64 v) : AtF p c := by
  obtain ⟨_, hB, _⟩ := prog_fn hp.pr hf
  have hbl := List.getElem?_eq_getElem hb
  obtain ⟨h1, _⟩ := blk_facts (hB _ _ hbl)
  exact ⟨f, f.bs[c.b], f.bs[c.b].l[0]'(by omega), hf, hbl, by rw [hj]; exact List.getElem?_eq_getElem (by omega), ln, rg⟩
theorem at_next {p : List Fun} (hp : PrF p) {c : Cal} {f : Fun} {bl : Blk} {i : Ins} (hc : CalF p c f bl i) (he : endB i.op = false) : AtF p { c with j := c.j + 1 } := by
  obtain ⟨_, _, h3, _, h5, _⟩ := ins_facts_at hp hc
  have : ¬ c.j + 1 = bl.l.length := fun e => by rw [h3.2 e] at he; cases he
  exact ⟨f, bl, bl.l[c.j + 1]'(by omega), hc.hf, hc.hb, List.getElem?_eq_getElem (by show c.j + 1 < _; omega), hc.ln, hc.rg⟩
theorem setR_j (c : Cal) (d v : Int) : (setR c d v).k = c.k ∧ (setR c d v).b = c.b ∧ (setR c d v).j = c.j ∧ (setR c d v).an = c.an ∧ (setR c d v).rg.length = c.rg.length ∧ (setR c d v).fr = c.fr := by
  unfold setR
  split <;> simp
theorem at_setR {p : List Fun} {c : Cal} (h : AtF p c) (d : Int) {v : Int} (hv : I64 v) : AtF p (setR c d v) := by
  obtain ⟨f, bl, i, h1, h2, h3, h4, h5⟩ := h
  obtain ⟨e1, e2, e3, _, e5, _⟩ := setR_j c d v
  refine ⟨f, bl, i, by rw [e1]; exact h1, by rw [e2]; exact h2, by rw [e3]; exact h3, by rw [e5]; exact h4, fun u hu => ?_⟩
  unfold setR at hu
  split at hu
  · exact h5 u hu
  · rcases List.mem_or_eq_of_mem_set hu with h | h
    · exact h5 u h
    · rw [h]; exact hv
theorem ans_top {c c' : Cal} (e : c'.an = c.an) : ∀ {l : List Cal}, AnsL c l → AnsL c' l
  | [], _ => trivial
  | t :: r, h => by unfold AnsL at *; rw [e]; exact h
theorem getR_i64 {c : Cal} (h : ∀ v ∈ c.rg, I64 v) (a : Int) : I64 (getR c a) := by
  unfold getR
  split
  · exact i64_small _ (by omega) (by omega)
  · rw [List.getD_eq_getElem?_getD]
    cases hh : c.rg[a.toNat]? with
    | none => exact i64_small _ (by simp) (by simp)
    | some v => exact h v (List.mem_of_getElem? hh)
theorem endB_no {op : Int} (h : op < 8) : endB op = false := by
  unfold endB
  simp
  omega
/-- A step that changes the innermost call alone. -/
theorem wf_top {p : List Fun} {s : St} (h : Wf p s) {c : Cal} (hc : AtF p c) (e : c.an = s.top.an) : Wf p { s with top := c, st := s.st + 1 } :=
  ⟨hc, h.low, ans_top e h.ans, h.lo, ⟨h.nx.1, by have := h.nx.2; simp only []; omega⟩, h.hp, ⟨h.en.1, by have := h.en.2; simp only []; omega⟩, by have := h.ps; simp only []; omega, by have := h.out; simp only []; omega, h.hs, h.pa⟩
theorem itoa_le (v : Int) (h : I64 v) : (Lib.itoa v ++ ([10] : List UInt8)).length ≤ 65 := by
  have := itoa_len v h.1 h.2
  simp
  omega
/-- The number of the function that is called. -/
theorem callee_ok {p : List Fun} (hp : PrF p) {i : Ins} (hrt : rtA i.nm.data.toList = none) (hca : calB i.nm.data.toList i.gs.length (fdF p i.nm) = true) : ∃ f, p[ixOf p i.nm]? = some f ∧ FnF f ∧ i.gs.length ≤ rgOf p (ixOf p i.nm) ∧ rgOf p (ixOf p i.nm) = f.h.rg.toNat ∧ frOf p (ixOf p i.nm) ≤ 4096 := by
  unfold calB at hca
  rw [hrt] at hca
  unfold fdF at hca
  obtain ⟨f', hf'⟩ : ∃ f', fnOf p i.nm = some f' := by
    cases hf : fnOf p i.nm with
    | none => rw [hf] at hca; simp at hca
    | some f' => exact ⟨f', rfl⟩
  rw [hf'] at hca
  simp only [Option.map_some, decide_eq_true_eq] at hca
  obtain ⟨k, hk, hix, _⟩ := ixE_find i.nm f' p hf'
  have hixk : ixOf p i.nm = k := by unfold ixOf; rw [hix]; rfl
  obtain ⟨hF, _⟩ := prog_fn hp.pr hk
  obtain ⟨hm, hfr, hpa⟩ := rg_le hk hF
  refine ⟨f', by rw [hixk]; exact hk, hF, by rw [hixk]; omega, ?_, by rw [hixk]; exact hfr⟩
  rw [hixk]
  unfold rgOf
  rw [hk]
  rfl
/-- Does an instruction touch memory by an address? -/
def toB (i : Ins) : Bool := decide (i.op = 4) || (decide (i.op = 5) || (decide (i.op = 7) && decide (i.nm.data.toList = [114, 116, 46, 102, 114, 101, 101])))
theorem wf_step {p : List Fun} (hp : PrF p) {s s' : St} (h : Wf p s) {f : Fun} {bl : Blk} {i : Ins} (hc : CalF p s.top f bl i) (hd : depB s i = false) (hst : s.st ≤ 600000) (hs : stpS p { s with st := s.st + 1 } i = .inl s') : Wf p s' ∧ s'.st = s.st + 1 := by
  obtain ⟨hF, hI, hE, hl1, hl2, hbl, hn, _⟩ := ins_facts_at hp hc
  unfold stpS at hs
  dsimp only at hs
  have set1 : ∀ d v, endB i.op = false → I64 v → Wf p { s with top := setR { s.top with j := s.top.j + 1 } d v, st := s.st + 1 } := fun d v he hv => wf_top h (at_setR (at_next hp hc he) d hv) (by rw [(setR_j _ _ _).2.2.2.1])
  by_cases ho : i.op = 1
  · rw [if_pos ho] at hs; cases hs; exact ⟨set1 _ _ (endB_no (by omega)) hn, rfl⟩
  rw [if_neg ho] at hs
  by_cases ho : i.op = 2
  · rw [if_pos ho] at hs; cases hs; exact ⟨set1 _ _ (endB_no (by omega)) (getR_i64 hc.rg _), rfl⟩
  rw [if_neg ho] at hs
  by_cases ho : i.op = 3
  · rw [if_pos ho] at hs
    cases hs
    obtain ⟨fk, hB⟩ := bin_op i.nm (hI.nm ho) (getR s.top i.a) (getR s.top i.b) (getR_i64 hc.rg _)
    exact ⟨set1 _ _ (endB_no (by omega)) hB.rg, rfl⟩
  rw [if_neg ho] at hs
  by_cases ho : i.op = 4
  · rw [if_pos ho] at hs
    split at hs
    · rename_i k m hw
      cases hs
      refine ⟨set1 _ _ (endB_no (by omega)) ?_, rfl⟩
      unfold wdAt
      cases hk : s.ps[k]? with
      | none => exact i64_small _ (by simp) (by simp)
      | some x =>
        simp only [Option.bind_some]
        cases hm : x.ws[m]? with
        | none => exact i64_small _ (by simp) (by simp)
        | some v => exact (h.pa x (List.mem_of_getElem? hk)).wd v (List.mem_of_getElem? hm)
    · cases hs
  rw [if_neg ho] at hs
  by_cases ho : i.op = 5
  · rw [if_pos ho] at hs
    split at hs
    · rename_i k m hw
      cases hs
      have t := wf_top h (at_next hp hc (endB_no (op := i.op) (by omega))) rfl
      have hu : I64 (getR s.top i.b) := getR_i64 hc.rg _
      unfold wdSet
      cases hk : s.ps[k]? with
      | none => exact ⟨t, rfl⟩
      | some x =>
        have hx := h.pa x (List.mem_of_getElem? hk)
        refine ⟨⟨t.top, t.low, t.ans, t.lo, t.nx, t.hp, t.en, by simpa using t.ps, t.out, ?_, fun y hy => ?_⟩, rfl⟩
        · have := sumH_set s.ps k x { x with ws := x.ws.set m (getR s.top i.b) } hk
          simp only [hA, List.length_set] at this
          have h2 := h.hs
          simp only []
          show s.hp = (sumH (s.ps.set k { x with ws := x.ws.set m (getR s.top i.b) }) : Int)
          omega
        · rcases List.mem_or_eq_of_mem_set hy with hy | hy
          · exact h.pa y hy
          · rw [hy]
            refine ⟨hx.ad, by simpa using hx.ln, fun v hv => ?_⟩
            rcases List.mem_or_eq_of_mem_set hv with hv | hv
            · exact hx.wd v hv
            · rw [hv]; exact hu
    · cases hs
  rw [if_neg ho] at hs
  by_cases ho : i.op = 6
  · rw [if_pos ho] at hs; cases hs; exact ⟨set1 _ _ (endB_no (by omega)) (i64_wrap _), rfl⟩
  rw [if_neg ho] at hs
  by_cases ho : i.op = 7
  · rw [if_pos ho] at hs
    have hnx := at_next hp hc (endB_no (op := i.op) (by omega))
    unfold calS at hs
    simp only [] at hs
    split at hs
    · cases hs
      have t := set1 i.d 0 (endB_no (by omega)) (i64_small _ (by omega) (by omega))
      refine ⟨⟨t.top, t.low, t.ans, t.lo, t.nx, t.hp, t.en, t.ps, ?_, t.hs, t.pa⟩, rfl⟩
      have hv : I64 ((i.gs.map (getR { s.top with j := s.top.j + 1 })).getD 0 0) := by
        rw [List.getD_eq_getElem?_getD, List.getElem?_map]
        cases i.gs[0]? with
        | none => exact i64_small _ (by simp) (by simp)
        | some a => exact getR_i64 (c := { s.top with j := s.top.j + 1 }) hc.rg a
      have := itoa_le _ hv
      have := h.out
      simp only [List.length_append] at *
      omega
    split at hs
    · cases hs
      have t := set1 i.d (match s.inp with | [] => -1 | b :: _ => (b.toNat : Int)) (endB_no (by omega)) (by
        cases s.inp with
        | nil => exact i64_small _ (by simp) (by simp)
        | cons b l => have := UInt8.toNat_lt b; exact i64_small _ (by simp only []; omega) (by simp only []; omega))
      exact ⟨⟨t.top, t.low, t.ans, t.lo, t.nx, t.hp, t.en, t.ps, t.out, t.hs, t.pa⟩, rfl⟩
    split at hs
    · split at hs
      · cases hs
      · rename_i hv
        cases hs
        have n1 := h.nx.1
        have n2 := h.nx.2
        have n3 := h.hp
        have n4 := h.ps
        have t := wf_top h (at_setR hnx i.d (v := s.nx) ⟨by omega, by omega⟩) (by rw [(setR_j _ _ _).2.2.2.1])
        refine ⟨⟨t.top, t.low, t.ans, t.lo, ⟨?_, ?_⟩, ⟨?_, ?_⟩, t.en, ?_, t.out, ?_, ?_⟩, rfl⟩
        · simp only []; omega
        · simp only []; omega
        · simp only []; omega
        · simp only []; omega
        · simp only [List.length_append, List.length_singleton]; omega
        · have := h.hs
          simp only [sumH, List.map_append, List.sum_append, List.map_cons, List.map_nil, List.sum_cons, List.sum_nil, hA, if_true, List.length_replicate]
          unfold sumH at this
          omega
        · intro x hx
          rcases List.mem_append.1 hx with hx | hx
          · exact h.pa x hx
          · simp only [List.mem_singleton] at hx
            subst hx
            refine ⟨n1, ?_, fun v hv => ?_⟩
            · simp only [List.length_replicate]; omega
            · rw [(List.mem_replicate.1 hv).2]; exact i64_small _ (by omega) (by omega)
    split at hs
    · split at hs
      · rename_i hok
        cases hs
        have t := wf_top h (at_setR hnx i.d (v := 0) (i64_small _ (by omega) (by omega))) (by rw [(setR_j _ _ _).2.2.2.1])
        have n3 := h.en
        have n4 := h.ps
        have n5 := h.hp
        unfold endS at hok ⊢
        simp only [] at hok ⊢
        obtain ⟨k3, a, ha, k4⟩ := enK_two hok
        have k5 := h.hs
        refine ⟨⟨t.top, t.low, t.ans, t.lo, t.nx, ⟨?_, ?_⟩, ⟨(enK_en kyA nilA s.ps s.en 2 _ _ n3.1).1, ?_⟩, ?_, t.out, ?_, enK_pa h.pa _ _ _ _⟩, trivial⟩
        · simp only []; omega
        · simp only []; omega
        · exact Int.le_trans (enK_en kyA nilA s.ps s.en 2 _ _ n3.1).2 (by simp only []; omega)
        · exact Nat.le_trans (enK_len kyA nilA s.ps s.en 2 _ _) (by simp only []; omega)
        · simp only []; omega
      · cases hs
    rename_i q1 q2 q3 q4
    cases hs
    have hrt : rtA i.nm.data.toList = none := by
      unfold rtA
      rw [if_neg q2, if_neg q1, if_neg q3, if_neg q4]
    obtain ⟨f', hk, hF', hle, hrg, hfr⟩ := callee_ok hp hrt (hI.ca ho)
    have hvl : (i.gs.map (getR { s.top with j := s.top.j + 1 })).length = i.gs.length := List.length_map ..
    unfold entS
    simp only [hvl]
    have n1 := h.nx.1
    have n2 := h.nx.2
    have n3 := h.en
    have n4 := h.ps
    have n5 := h.out
    refine ⟨⟨?_, ?_, ⟨?_, ?_⟩, ?_, ⟨?_, ?_⟩, h.hp, ⟨?_, ?_⟩, ?_, ?_, ?_, ?_⟩, trivial⟩
    · have hb : f'.h.bl = f'.bs.length := hp.bl f' (List.mem_of_getElem? hk)
      have := hF'.bl
      refine at_block hp (c := ⟨ixOf p i.nm, _, s.nx, 0, 0, i.d⟩) hk (by show 0 < _; omega) rfl ?_ ?_
      · simp only [List.length_append, hvl, List.length_replicate]; omega
      · intro v hv
        rcases List.mem_append.1 hv with hv | hv
        · obtain ⟨y, _, rfl⟩ := List.mem_map.1 hv
          exact getR_i64 (c := { s.top with j := s.top.j + 1 }) hc.rg y
        · rw [(List.mem_replicate.1 hv).2]
          exact i64_small _ (by omega) (by omega)
    · intro c hc'
      rcases List.mem_cons.1 hc' with rfl | hc'
      · exact hnx
      · exact h.low c hc'
    · rcases hI.dc ho with hd | hd
      · exact .inl hd
      · refine .inr ⟨hd.1, ?_⟩
        have := hc.ln
        simp only []
        omega
    · exact ans_top (c := s.top) (c' := { s.top with j := s.top.j + 1 }) rfl h.ans
    · unfold depB at hd
      rw [hrt] at hd
      simp [ho] at hd
      simp only [List.length_cons]
      omega
    · simp only []; omega
    · simp only []; omega
    · simp only []; omega
    · simp only []; omega
    · simp only [List.length_append, List.length_singleton]; omega
    · simp only []; omega
    · have := h.hs
      simp only [sumH, List.map_append, List.sum_append, List.map_cons, List.map_nil, List.sum_cons, List.sum_nil, hA]
      simp
      exact this
    · intro x hx
      rcases List.mem_append.1 hx with hx | hx
      · exact h.pa x hx
      · simp only [List.mem_singleton] at hx
        subst hx
        refine ⟨n1, ?_, fun v hv => ?_⟩
        · simp only [List.length_replicate]; exact hfr
        · rw [(List.mem_replicate.1 hv).2]; exact i64_small _ (by omega) (by omega)
  rw [if_neg ho] at hs
  by_cases ho : i.op = 8
  · rw [if_pos ho] at hs
    cases hs
    have ht := hI.to (.inl ho)
    exact ⟨wf_top h (at_block hp (c := { s.top with b := i.to.toNat, j := 0 }) hc.hf (by show i.to.toNat < _; omega) rfl hc.ln hc.rg) rfl, rfl⟩
  rw [if_neg ho] at hs
  by_cases ho : i.op = 9
  · rw [if_pos ho] at hs
    cases hs
    have ht := hI.to (.inr ho)
    have he := hI.el ho
    refine ⟨wf_top h (at_block hp (c := { s.top with b := _, j := 0 }) hc.hf ?_ rfl hc.ln hc.rg) rfl, rfl⟩
    show Int.toNat _ < _
    split <;> omega
  rw [if_neg ho] at hs
  by_cases ho : i.op = 10
  · rw [if_pos ho] at hs
    unfold bakS at hs
    simp only [] at hs
    cases hlow : s.low with
    | nil => rw [hlow] at hs; cases hs
    | cons t l =>
      rw [hlow] at hs
      cases hs
      have n1 := h.nx
      have n3 := h.en
      have n4 := h.ps
      have n5 := h.out
      have n6 := h.lo
      rw [hlow] at n6
      have ha := h.ans
      rw [hlow] at ha
      have k1 := enK_len kyA nilA s.ps s.en 1 s.top.fr ((frOf p s.top.k : Nat) : Int)
      have k2 := enK_en kyA nilA s.ps s.en 1 s.top.fr ((frOf p s.top.k : Nat) : Int) n3.1
      refine ⟨⟨at_setR (h.low t (by rw [hlow]; simp)) _ (getR_i64 (c := { s.top with j := s.top.j + 1 }) hc.rg _), fun c hc' => h.low c (by rw [hlow]; simp [hc']), ans_top (setR_j _ _ _).2.2.2.1 ha.2, ?_, ⟨n1.1, ?_⟩, h.hp, ⟨k2.1, ?_⟩, ?_, ?_, ?_, enK_pa h.pa _ _ _ _⟩, rfl⟩
      · simp only [List.length_cons] at n6; simp only []; omega
      · simp only [endS]; omega
      · simp only [endS]; omega
      · simp only [endS]; omega
      · simp only [endS]; omega
      · simp only [endS]; rw [enK_one]; exact h.hs
  rw [if_neg ho] at hs
  cases hs
end
section
open Go.RowKit Go.Shelf
variable {p : List Fun} {pp : Option Addr} {pc : Nat} {W0 : World} {R m1 m2 : Nat} {r : Rs} {C ca P pa : Nat} {gl : List (Nat × Cal)} {gp : List (Nat × Par)} {W : World} {s : St} {tq : Nat} {lq : List (Nat × Cal)} {c : Cal} {f : Fun} {bl : Blk} {i : Ins} {g1 o1 bc g2 o2 ic : Nat}
theorem ins_all (hI : FunA W0 pp pc p) (hc : CalF p c f bl i) : ∃ g1 o1 bc g2 o2 ic, ∀ W, Below W0.heap.size W0 W → InsP W0 W p c f bl i g1 o1 bc g2 o2 ic := by
  obtain ⟨g1, o1, bc, g2, o2, ic, h⟩ := ins_cells hI (Below.refl _ W0) hc
  refine ⟨g1, o1, bc, g2, o2, ic, fun W hb => ?_⟩
  have hlt : g1 < W0.heap.size := World.block_lt_of_cell? _ _ h.y0
  obtain ⟨u1, u2, u3⟩ := (hI.below hb).2.2.1 f (List.mem_of_getElem? hc.hf)
  have u4 := (u3.2.2.1 bl (List.mem_of_getElem? hc.hb)).2.2.1 i (List.mem_of_getElem? hc.hi)
  exact ⟨h.bv, (World.cell?_of_block (hb.block g1 hlt)).trans h.y0, fun t v ht => (World.cell?_of_block (hb.block g2 h.lt)).trans (h.ce t v ht), h.lt, u4.1, h.sz⟩
/-- The bounds of a run. -/
structure Bnd (s : St) : Prop where
  lo : s.low.length ≤ 999
  nx : 0 ≤ s.nx ∧ s.nx ≤ 1099511627776
  hp : 0 ≤ s.hp ∧ s.hp ≤ 8192
  en : 0 ≤ s.en ∧ s.en ≤ 900000
  ps : s.ps.length ≤ 1000000
  out : s.out.length ≤ 1000000000
  pa : ∀ x ∈ s.ps, PaF x
theorem Wf.bnd {p : List Fun} {s : St} (h : Wf p s) (hst : s.st ≤ 600000) : Bnd s :=
  ⟨h.lo, ⟨h.nx.1, by have := h.nx.2; omega⟩, h.hp, ⟨h.en.1, by have := h.en.2; omega⟩, by have := h.ps; omega, by have := h.out; omega, h.pa⟩
theorem ans_first {c : Cal} {l : List Cal} (h : AnsL c l) : AnsF c l := fun t r e => by
  subst e
  exact h.1
theorem step_all (hp : PrF p) (hI : FunA W0 pp pc p) (hT : PwT W0) (h : RelD p pp pc W0 R m1 m2 r C ca P pa ((tq, s.top) :: lq) gp W s) (hB : Bnd s) (hA : AnsL s.top s.low) (hc : CalF p s.top f bl i) (hins : ∀ W', Below W0.heap.size W0 W' → InsP W0 W' p s.top f bl i g1 o1 bc g2 o2 ic) : Calls Tryd.prog 22 #[.pointer (some ⟨R, 0, none⟩), .pointer (some ⟨g2, o2 + s.top.j * 9, none⟩)] W fun e w' => e = .returned (.tuple #[]) ∧ OutD p pp pc W0 R m1 m2 w' (stpS p s i) := by
  obtain ⟨hF, hIF, hE, hl1, hl2, hbl, hn64, _⟩ := ins_facts_at hp hc
  have hP := hins W h.bel
  have hll : lq.length = s.low.length := by
    have := congrArg List.length h.ls
    simp only [List.length_map, List.length_cons] at this
    omega
  have hlo := hB.lo
  have hgp : gp.length ≤ 1000000 := by
    have := congrArg List.length h.gs
    rw [List.length_map] at this
    have := hB.ps
    omega
  have hj : s.top.j < 1000000 := by omega
  have ho := hIF.op
  have hreg : (f.h.rg.toNat : Int) = f.h.rg := by have := hF.rg; have := hF.pa; omega
  by_cases o1' : i.op = 1
  · exact step_const h (by omega) hc hj hIF hP o1'
  by_cases o2' : i.op = 2
  · exact step_move h (by omega) hc hj hIF hP o2'
  by_cases o3 : i.op = 3
  · exact step_bin h (by omega) hc hj hIF hP o3
  by_cases o4 : i.op = 4
  · exact step_load h (by omega) hgp (fun x hx => (hB.pa x hx).ad) hc hj hIF hP o4
  by_cases o5 : i.op = 5
  · exact step_store h (by omega) hgp (fun x hx => (hB.pa x hx).ad) hc hj hIF hP o5
  by_cases o6 : i.op = 6
  · exact step_frame h (by omega) hc hj hIF hP o6
  by_cases o7 : i.op = 7
  · refine do_call h (by omega) hj hP o7 (fun W' hx hPx => ?_) hins
    have hg : ∀ y ∈ i.gs, 0 ≤ y ∧ y < s.top.rg.length := fun y hy => by
      have := hIF.gs y hy
      rw [hc.ln]
      omega
    have hd : i.d = -1 ∨ (0 ≤ i.d ∧ i.d < s.top.rg.length) := by
      rw [hc.ln]
      rcases hIF.dc o7 with h | h
      · exact .inl h
      · exact .inr (by omega)
    have hca := hIF.ca o7
    have glen : ∀ k, rtA i.nm.data.toList = some k → (i.gs.length : Int) = k := fun k hk => by
      unfold calB at hca
      rw [hk] at hca
      simpa using hca
    by_cases q1 : i.nm.data.toList = [114, 116, 46, 112, 114, 105, 110, 116]
    · exact call_prints (s := { s with top := { s.top with j := s.top.j + 1 } }) hx (by omega) hPx hg hc.rg hd (by have := glen 1 (by rw [q1]; decide); omega) q1 hB.out hT
    by_cases q2 : i.nm.data.toList = [114, 116, 46, 114, 101, 97, 100]
    · exact call_reads (s := { s with top := { s.top with j := s.top.j + 1 } }) hx (by omega) hPx hd (by have := glen 0 (by rw [q2]; decide); omega) q2
    by_cases q3 : i.nm.data.toList = [114, 116, 46, 97, 108, 108, 111, 99]
    · exact call_allocs (s := { s with top := { s.top with j := s.top.j + 1 } }) hx (by omega) hPx hg hd (by have := glen 1 (by rw [q3]; decide); omega) q3 hB.nx hB.hp hgp
    by_cases q4 : i.nm.data.toList = [114, 116, 46, 102, 114, 101, 101]
    · refine call_frees (s := { s with top := { s.top with j := s.top.j + 1 } }) hx (by omega) hPx hg hd (by have := glen 2 (by rw [q4]; decide); omega) q4 hB.hp hB.en hgp (fun a b hb => ?_)
      obtain ⟨_, x, hx, e⟩ := enK_two (l := s.ps) (e := s.en) (t := a) (c := b) hb
      have := (hB.pa x hx).ln
      omega
    exact call_fns (s := { s with top := { s.top with j := s.top.j + 1 } }) hx (by omega) hI hp.pr hPx hg (by unfold rtA; rw [if_neg q2, if_neg q1, if_neg q3, if_neg q4]) hca hB.nx hgp
  by_cases o8 : i.op = 8
  · exact step_jump h (by omega) hj hIF hP o8
  by_cases o9 : i.op = 9
  · exact step_if h (by omega) hc hj hIF hP o9
  by_cases o10 : i.op = 10
  · refine step_ret h (by omega) hB.en.1 hB.en.2 hgp ?_ (ans_first hA) hc hj hIF hP o10
    exact (rg_le hc.hf hF).2.1
  · exact step_trap h (by omega) hj hIF hP (by omega)
/-- The next instruction. -/
theorem next_ins (h : RelD p pp pc W0 R m1 m2 r C ca P pa ((tq, s.top) :: lq) gp W s) (hn : lq.length < 1000000) (hc : CalF p s.top f bl i) (hP : InsP W0 W p s.top f bl i g1 o1 bc g2 o2 ic) : Calls Tryd.prog 19 #[.pointer (some ⟨R, 0, none⟩)] W fun e w' => e = .returned (.pointer (some ⟨g2, o2 + s.top.j * 9, none⟩)) ∧ ∃ k, w' = W.drewN k := by
  have hs := h.stpF
  have c0 : W.cell? ⟨C, lq.length * 7, none⟩ = some (.slice (some ⟨g1, o1, none⟩) f.bs.length bc) := by
    have := own_cell h.co h.cv (i := lq.length * 7 + 0) (u := bvOf p s.top.k) (by rw [rowV_at]; rfl)
    rw [hP.bv] at this
    exact this
  exact instruction19g R C ca lq.length g1 o1 f.bs.length bc g2 o2 bl.l.length ic s.top.b s.top.j W hs.h3 hn c0 hs.c4 hs.c5 (List.getElem?_eq_some_iff.1 hc.hb).1 (List.getElem?_eq_some_iff.1 hc.hi).1 hP.y0
theorem deep_any (h : RelD p pp pc W0 R m1 m2 r C ca P pa ((tq, s.top) :: lq) gp W s) (hP : InsP W0 W p c f bl i g1 o1 bc g2 o2 ic) : Calls Tryd.prog 20 #[.pointer (some ⟨R, 0, none⟩), .pointer (some ⟨g2, o2 + c.j * 9, none⟩)] W fun e w' => e = .returned (.bool (depB s i)) ∧ w' = W := by
  have hs := h.stpF
  have i0 := hP.ce 0 _ rfl
  have i5 := hP.ce 5 _ rfl
  have hll : lq.length = s.low.length := by
    have := congrArg List.length h.ls
    simp only [List.length_map, List.length_cons] at this
    omega
  unfold depB
  by_cases o7 : i.op = 7
  · rw [o7] at i0
    by_cases hm : 1000 ≤ s.low.length + 1
    · cases hr : rtA i.nm.data.toList with
      | none =>
        have hv : rtV i.nm.toList = .tuple #[.int .i64 0, .bool false] := by unfold rtV; rw [ByteArray.toList_eq, hr]
        have t := deep_many R g2 (o2 + c.j * 9) (lq.length + 1) _ ca i.nm 0 false W i0 i5 hs.h3 (by omega) hv
        simpa [o7, hm] using t
      | some k =>
        have hv : rtV i.nm.toList = .tuple #[.int .i64 k, .bool true] := by unfold rtV; rw [ByteArray.toList_eq, hr]
        have t := deep_many R g2 (o2 + c.j * 9) (lq.length + 1) _ ca i.nm k true W i0 i5 hs.h3 (by omega) hv
        simpa [o7, hm] using t
    · have t := deep_few R g2 (o2 + c.j * 9) (lq.length + 1) _ ca W i0 hs.h3 (by omega)
      simpa [o7, hm] using t
  · have t := deep_op R g2 (o2 + c.j * 9) i.op W i0 o7
    simpa [o7] using t
end
end Go.Proofs.YtdppoblbenbafaaDoor
