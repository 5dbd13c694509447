/- Parts of memory that lie in order: what a binary search finds of them. Parts of memory that lie in order: the live ones, and what a step makes of them. The document's own memory of a run, plainly: all its parts stay, each with a flag. The document's own run, plainly; a step of it and a step of the program's. -/
import Derived.Test.YtdppoblbenbafaaGreatDoorYAY
namespace Go.Proofs.YtdppoblbenbafaaGreatDoor
section
open Go.RowKit Go.Shelf
/-- A binary search of a question that is no first and yes then. -/
theorem bsF_spec (p : Nat → Bool) (N : Nat) (hm : ∀ a b, a ≤ b → b < N → p a = true → p b = true) : ∀ (n i j : Nat), j - i ≤ n → i ≤ j → j ≤ N → (∀ k, i ≤ k → k < bsF p i j → p k = false) ∧ (∀ k, bsF p i j ≤ k → k < j → p k = true)
  | 0, i, j, h, hij, _ => by
    rw [bsF, dif_neg (by omega)]
    exact ⟨fun k h1 h2 => by omega, fun k h1 h2 => by omega⟩
  | n + 1, i, j, h, hij, hN => by
    by_cases hlt : i < j
    · rw [bsF, dif_pos hlt]
      cases hp : p ((i + j) / 2) with
      | true =>
        rw [if_pos rfl]
        obtain ⟨h1, h2⟩ := bsF_spec p N hm n i ((i + j) / 2) (by omega) (by omega) (by omega)
        refine ⟨h1, fun k hk hkj => ?_⟩
        by_cases hk2 : k < (i + j) / 2
        · exact h2 k hk hk2
        · exact hm _ k (by omega) (by omega) hp
      | false =>
        rw [if_neg (by decide)]
        obtain ⟨h1, h2⟩ := bsF_spec p N hm n ((i + j) / 2 + 1) j (by omega) (by omega) hN
        refine ⟨fun k hk hk2 => ?_, h2⟩
        by_cases hk3 : (i + j) / 2 + 1 ≤ k
        · exact h1 k hk3 hk2
        · cases hpk : p k with
          | false => rfl
          | true => rw [hm k ((i + j) / 2) (by omega) (by omega) hpk] at hp; cases hp
    · rw [bsF, dif_neg hlt]
      exact ⟨fun k h1 h2 => by omega, fun k h1 h2 => by omega⟩
/-- One lies behind the other. -/
def Beh (a b : Par) : Prop := a.ad + 8 * ((a.ws.length : Int) + 1) ≤ b.ad
def Srt (l : List Par) : Prop := l.Pairwise Beh
theorem srt_at {l : List Par} (h : Srt l) {i j : Nat} {a b : Par} (hi : l[i]? = some a) (hj : l[j]? = some b) (hij : i < j) : Beh a b := by
  obtain ⟨h1, e1⟩ := List.getElem?_eq_some_iff.1 hi
  obtain ⟨h2, e2⟩ := List.getElem?_eq_some_iff.1 hj
  have := List.pairwise_iff_getElem.1 h i j h1 h2 hij
  rw [e1, e2] at this
  exact this
def adF (l : List Par) (k : Nat) : Int := match (l.map kyA)[k]? with | some p => p.2.1 | none => 0
theorem adF_at {l : List Par} {k : Nat} {a : Par} (h : l[k]? = some a) : adF l k = a.ad := by
  unfold adF
  rw [List.getElem?_map, h]
  rfl
theorem fd_eq (l : List Par) (t : Int) : fdK (l.map kyA) t = bsF (fun k => decide (t < adF l k)) 0 l.length := by
  unfold fdK
  rw [List.length_map]
  rfl
theorem fd_le (l : List Par) (t : Int) : fdK (l.map kyA) t ≤ l.length := by
  rw [fd_eq]
  exact (bsF_le _ 0 l.length (Nat.zero_le _)).2
/-- What the search tells: so many parts begin at or ahead of an address. -/
theorem fd_spec {l : List Par} (h : Srt l) (t : Int) : (∀ k a, l[k]? = some a → k < fdK (l.map kyA) t → a.ad ≤ t) ∧ (∀ k a, l[k]? = some a → fdK (l.map kyA) t ≤ k → t < a.ad) := by
  have S := bsF_spec (fun k => decide (t < adF l k)) l.length (fun a b hab hb h1 => by
    obtain ⟨x, hx⟩ : ∃ x, l[a]? = some x := ⟨_, List.getElem?_eq_getElem (by omega)⟩
    obtain ⟨y, hy⟩ : ∃ y, l[b]? = some y := ⟨_, List.getElem?_eq_getElem hb⟩
    simp only [decide_eq_true_eq] at h1 ⊢
    rw [adF_at hx] at h1
    rw [adF_at hy]
    by_cases e : a = b
    · subst e; rw [hx] at hy; cases hy; exact h1
    · have := srt_at h hx hy (by omega)
      unfold Beh at this
      omega) l.length 0 l.length (by omega) (Nat.zero_le _) (Nat.le_refl _)
  rw [fd_eq]
  refine ⟨fun k a ha hk => ?_, fun k a ha hk => ?_⟩
  · have := S.1 k (Nat.zero_le _) hk
    simp only [decide_eq_false_iff_not] at this
    rw [adF_at ha] at this
    omega
  · have := S.2 k hk (List.getElem?_eq_some_iff.1 ha).1
    simp only [decide_eq_true_eq] at this
    rw [adF_at ha] at this
    exact this
/-- A part holds an address. -/
def HasW (a : Par) (t : Int) : Prop := a.ad ≤ t ∧ (t - a.ad) / 8 < a.ws.length
instance (a : Par) (t : Int) : Decidable (HasW a t) := by unfold HasW; exact inferInstance
theorem has_one {l : List Par} (h : Srt l) {t : Int} {i j : Nat} {a b : Par} (hi : l[i]? = some a) (hj : l[j]? = some b) (ha : HasW a t) (hb : HasW b t) : i = j := by
  unfold HasW at ha hb
  by_cases e : i = j
  · exact e
  · by_cases hlt : i < j
    · have := srt_at h hi hj hlt; unfold Beh at this; omega
    · have := srt_at h hj hi (by omega); unfold Beh at this; omega
theorem ad_one {l : List Par} (h : Srt l) {i j : Nat} {a b : Par} (hi : l[i]? = some a) (hj : l[j]? = some b) (he : a.ad = b.ad) : i = j := by
  by_cases e : i = j
  · exact e
  · by_cases hlt : i < j
    · have := srt_at h hi hj hlt; unfold Beh at this; omega
    · have := srt_at h hj hi (by omega); unfold Beh at this; omega
theorem wo_some {l : List Par} (h : Srt l) {t : Int} {k m : Nat} (hw : woS l t = some (k, m)) : ∃ a, l[k]? = some a ∧ ¬ a.kd = 0 ∧ HasW a t ∧ t % 8 = 0 ∧ m = ((t - a.ad) / 8).toNat := by
  unfold woS at hw
  cases hf : fdK (l.map kyA) t with
  | zero => rw [hf] at hw; cases hw
  | succ n =>
    rw [hf] at hw
    simp only [] at hw
    split at hw
    · rename_i h8
      cases hn : l[n]? with
      | none => rw [hn] at hw; cases hw
      | some a =>
        rw [hn] at hw
        simp only [] at hw
        split at hw
        · cases hw
        · rename_i hc
          cases hw
          have h1 := (fd_spec h t).1 k a hn (by omega)
          unfold kyA at hc
          simp only [] at hc
          by_cases hk : a.kd = 0
          · rw [if_pos hk] at hc; omega
          · rw [if_neg hk] at hc
            exact ⟨a, hn, hk, ⟨h1, by omega⟩, h8, rfl⟩
    · cases hw
theorem wo_none {l : List Par} (h : Srt l) {t : Int} (hw : woS l t = none) : ∀ a ∈ l, ¬ a.kd = 0 → t % 8 = 0 → ¬ HasW a t := by
  intro a ha hk h8 hh
  obtain ⟨i, hi⟩ := List.getElem?_of_mem ha
  unfold woS at hw
  have h2 := (fd_spec h t).2 i a hi
  have hh' := hh
  unfold HasW at hh'
  cases hf : fdK (l.map kyA) t with
  | zero => have := h2 (by omega); omega
  | succ n =>
    rw [hf] at hw
    simp only [] at hw
    rw [if_pos h8] at hw
    have hle := fd_le l t
    obtain ⟨b, hb⟩ : ∃ b, l[n]? = some b := ⟨_, List.getElem?_eq_getElem (by omega)⟩
    rw [hb] at hw
    simp only [] at hw
    split at hw
    · rename_i hc
      have hbt := (fd_spec h t).1 n b hb (by omega)
      have hin : i < n + 1 := by
        by_cases hc2 : i < n + 1
        · exact hc2
        · have := h2 (by omega); omega
      by_cases e : i = n
      · subst e
        rw [hi] at hb
        cases hb
        unfold kyA at hc
        simp only [] at hc
        rw [if_neg hk] at hc
        omega
      · have := srt_at h hi hb (by omega)
        unfold Beh at this
        omega
    · cases hw
end
section
open Go.RowKit Go.Shelf
/-- The live parts. -/
def LvS (l : List Par) : List Par := l.filter fun a => decide (¬ a.kd = 0)
def updW (t v : Int) (a : Par) : Par := if HasW a t then { a with ws := a.ws.set ((t - a.ad) / 8).toNat v } else a
theorem updW_kd (t v : Int) (a : Par) : (updW t v a).kd = a.kd := by unfold updW; split <;> rfl
theorem updW_ad (t v : Int) (a : Par) : (updW t v a).ad = a.ad := by unfold updW; split <;> rfl
theorem updW_len (t v : Int) (a : Par) : (updW t v a).ws.length = a.ws.length := by
  unfold updW
  split
  · exact List.length_set
  · rfl
theorem set_upd {l : List Par} (h : Srt l) {t v : Int} {k : Nat} {a : Par} (hk : l[k]? = some a) (ha : HasW a t) : l.set k { a with ws := a.ws.set ((t - a.ad) / 8).toNat v } = l.map (updW t v) := by
  apply List.ext_getElem?
  intro j
  rw [List.getElem?_set, List.getElem?_map]
  by_cases e : k = j
  · subst e
    rw [if_pos rfl, if_pos (List.getElem?_eq_some_iff.1 hk).1, hk]
    simp only [Option.map_some, updW, if_pos ha]
  · rw [if_neg e]
    cases hj : l[j]? with
    | none => rfl
    | some b =>
      have hb : ¬ HasW b t := fun hb => e (has_one h hk hj ha hb)
      simp only [Option.map_some, updW, if_neg hb]
theorem lv_upd (t v : Int) (l : List Par) : LvS (l.map (updW t v)) = (LvS l).map (updW t v) := by
  unfold LvS
  rw [List.filter_map]
  congr 1
  apply List.filter_congr
  intro a _
  simp [updW_kd]
theorem wd_set {l : List Par} (h : Srt l) {t v : Int} {k m : Nat} (hw : woS l t = some (k, m)) : wdSet l k m v = l.map (updW t v) := by
  obtain ⟨a, hk, _, ha, _, hm⟩ := wo_some h hw
  unfold wdSet
  rw [hk, hm]
  exact set_upd h hk ha
theorem srt_upd {l : List Par} (h : Srt l) (t v : Int) : Srt (l.map (updW t v)) := by
  unfold Srt at *
  rw [List.pairwise_map]
  refine h.imp fun {a b} hab => ?_
  unfold Beh at *
  rw [updW_ad, updW_ad, updW_len]
  exact hab
theorem srt_sub {l l' : List Par} (h : Srt l) (hs : l'.Sublist l) : Srt l' := List.Pairwise.sublist hs h
theorem srt_add {l : List Par} (h : Srt l) {a : Par} (ha : ∀ b ∈ l, Beh b a) : Srt (l ++ [a]) := by
  unfold Srt at *
  rw [List.pairwise_append]
  exact ⟨h, List.pairwise_singleton _ _, fun b hb x hx => by rw [List.mem_singleton.1 hx]; exact ha b hb⟩
theorem srt_nil {l : List Par} (h : Srt l) {k : Nat} {a : Par} (hk : l[k]? = some a) : Srt (l.set k (nilA a.ad)) := by
  have e : ∃ f : Par → Par, l.set k (nilA a.ad) = l.map f ∧ ∀ x, (f x).ad = x.ad ∧ (f x).ws.length ≤ x.ws.length := by
    refine ⟨fun x => if x.ad = a.ad then nilA a.ad else x, ?_, fun x => ?_⟩
    · apply List.ext_getElem?
      intro j
      rw [List.getElem?_set, List.getElem?_map]
      by_cases e : k = j
      · subst e
        rw [if_pos rfl, if_pos (List.getElem?_eq_some_iff.1 hk).1, hk]
        simp
      · rw [if_neg e]
        cases hj : l[j]? with
        | none => rfl
        | some b =>
          have hb : ¬ b.ad = a.ad := fun hb => e (ad_one h hk hj hb.symm)
          simp [hb]
    · simp only []
      split
      · rename_i hx; exact ⟨hx.symm, Nat.zero_le _⟩
      · exact ⟨rfl, Nat.le_refl _⟩
  obtain ⟨f, e, hf⟩ := e
  rw [e]
  unfold Srt at *
  rw [List.pairwise_map]
  refine h.imp fun {x y} hxy => ?_
  unfold Beh at *
  have h1 := hf x
  have h2 := hf y
  omega
theorem lv_td (l : List Par) (e : Int) : LvS (tdK kyA l e).1 = LvS l := by
  unfold tdK
  split
  · rfl
  · unfold LvS
    rw [List.filter_filter]
    apply List.filter_congr
    intro a _
    simp [kyA]
    exact fun h => decide_eq_true h
theorem td_sub (l : List Par) (e : Int) : (tdK kyA l e).1.Sublist l := by
  unfold tdK
  split
  · exact List.Sublist.refl _
  · exact List.filter_sublist
theorem lv_nil {l : List Par} (h : Srt l) {k : Nat} {a : Par} (hk : l[k]? = some a) : LvS (l.set k (nilA a.ad)) = (LvS l).filter fun x => decide (¬ x.ad = a.ad) := by
  have e : l.set k (nilA a.ad) = l.map fun x => if x.ad = a.ad then nilA a.ad else x := by
    apply List.ext_getElem?
    intro j
    rw [List.getElem?_set, List.getElem?_map]
    by_cases e : k = j
    · subst e
      rw [if_pos rfl, if_pos (List.getElem?_eq_some_iff.1 hk).1, hk]
      simp
    · rw [if_neg e]
      cases hj : l[j]? with
      | none => rfl
      | some b =>
        have hb : ¬ b.ad = a.ad := fun hb => e (ad_one h hk hj hb.symm)
        simp [hb]
  rw [e]
  unfold LvS
  clear h hk e
  induction l with
  | nil => rfl
  | cons x l ih =>
    rw [List.map_cons, List.filter_cons, List.filter_cons]
    by_cases h1 : x.ad = a.ad
    · rw [if_pos h1, if_neg (by simp [nilA]), ih]
      by_cases h2 : x.kd = 0
      · rw [if_neg (by simp [h2])]
      · rw [if_pos (by simp [h2]), List.filter_cons, if_neg (by simp [h1])]
    · rw [if_neg h1]
      by_cases h2 : x.kd = 0
      · rw [if_neg (by simp [h2]), if_neg (by simp [h2]), ih]
      · rw [if_pos (by simp [h2]), if_pos (by simp [h2]), List.filter_cons, if_pos (by simp [h1]), ih]
/-- A part that ends. -/
theorem en_yes {l : List Par} (h : Srt l) {e kind t c : Int} (hb : (enK kyA nilA l e kind t c).1 = true) (hk0 : ¬ kind = 0) : LvS (enK kyA nilA l e kind t c).2.1 = ((LvS l).filter fun a => decide (¬ a.ad = t)) ∧ Srt (enK kyA nilA l e kind t c).2.1 ∧ ∃ a ∈ LvS l, a.kd = kind ∧ a.ad = t ∧ (a.ws.length : Int) = c := by
  obtain ⟨k, a, ha, hk, hat, hc, he⟩ := enK_ok hb
  rw [he, lv_td, ← hat]
  have hc' : (a.ws.length : Int) = c := by
    unfold kyA at hc
    simp only [] at hc
    rw [if_neg (by rw [hk]; exact hk0)] at hc
    exact hc
  refine ⟨lv_nil h ha, srt_sub (srt_nil h ha) (td_sub _ _), a, ?_, hk, rfl, hc'⟩
  unfold LvS
  rw [List.mem_filter]
  exact ⟨List.mem_of_getElem? ha, by simp [hk, hk0]⟩
theorem en_is {l : List Par} (h : Srt l) {e kind t c : Int} {a : Par} (ha : a ∈ LvS l) (hk : a.kd = kind) (hat : a.ad = t) (hc : (a.ws.length : Int) = c) : (enK kyA nilA l e kind t c).1 = true := by
  unfold LvS at ha
  rw [List.mem_filter] at ha
  obtain ⟨hm, hk0⟩ := ha
  have hk0 : ¬ a.kd = 0 := by simpa using hk0
  obtain ⟨i, hi⟩ := List.getElem?_of_mem hm
  have hs := fd_spec h t
  have hi1 : fdK (l.map kyA) t = i + 1 := by
    have h1 : ¬ fdK (l.map kyA) t ≤ i := fun hle => by have := hs.2 i a hi hle; omega
    by_cases h2 : fdK (l.map kyA) t = i + 1
    · exact h2
    · have hle := fd_le l t
      obtain ⟨b, hb⟩ : ∃ b, l[i + 1]? = some b := ⟨_, List.getElem?_eq_getElem (by omega)⟩
      have := hs.1 (i + 1) b hb (by omega)
      have h3 := srt_at h hi hb (by omega)
      unfold Beh at h3
      omega
  unfold enK
  rw [hi1]
  simp only [hi]
  rw [if_pos]
  unfold kyA
  simp only []
  rw [if_neg hk0]
  exact ⟨hk, hat, hc⟩
end
section
open Go.RowKit Go.Shelf
/-- A part: its address, its words, whether it is a block, whether it has ended. -/
structure Ob where
  ad : Int
  ws : List Int
  bk : Bool
  ed : Bool
def toP (o : Ob) : Par := ⟨if o.bk then 2 else 1, o.ad, o.ws⟩
def LvR (l : List Ob) : List Par := (l.filter fun o => !o.ed).map toP
def SrtR (l : List Ob) : Prop := Srt (l.map toP)
/-- The last one that is such. -/
def lastF {α : Type} (f : α → Bool) : List α → Option Nat
  | [] => none
  | x :: l => match lastF f l with
    | some k => some (k + 1)
    | none => if f x then some 0 else none
theorem lastF_some {α : Type} (f : α → Bool) : ∀ (l : List α) (k : Nat), lastF f l = some k → ∃ x, l[k]? = some x ∧ f x = true
  | [], k, h => by cases h
  | x :: l, k, h => by
    rw [lastF] at h
    cases hl : lastF f l with
    | some j =>
      rw [hl] at h
      cases h
      obtain ⟨y, h1, h2⟩ := lastF_some f l j hl
      exact ⟨y, by simpa using h1, h2⟩
    | none =>
      rw [hl] at h
      simp only [] at h
      split at h
      · rename_i hx; cases h; exact ⟨x, rfl, hx⟩
      · cases h
theorem lastF_none {α : Type} (f : α → Bool) : ∀ (l : List α), lastF f l = none → ∀ x ∈ l, f x = false
  | [], _, x, hx => by cases hx
  | y :: l, h, x, hx => by
    rw [lastF] at h
    cases hl : lastF f l with
    | some j => rw [hl] at h; cases h
    | none =>
      rw [hl] at h
      simp only [] at h
      split at h
      · cases h
      · rename_i hy
        rcases List.mem_cons.1 hx with rfl | hx
        · simpa using hy
        · exact lastF_none f l hl x hx
def inO (t : Int) (o : Ob) : Bool := !o.ed && (decide (o.ad ≤ t) && (decide (t % 8 = 0) && decide ((t - o.ad) / 8 < (o.ws.length : Int))))
/-- Where the word at an address is. -/
def woR (l : List Ob) (t : Int) : Option (Nat × Nat) := (lastF (inO t) l).bind fun k => (l[k]?).map fun o => (k, ((t - o.ad) / 8).toNat)
theorem inO_is {t : Int} {o : Ob} : inO t o = true ↔ o.ed = false ∧ HasW (toP o) t ∧ t % 8 = 0 := by
  unfold inO HasW toP
  simp
  intro _
  exact ⟨fun ⟨a, b, c⟩ => ⟨⟨a, c⟩, b⟩, fun ⟨⟨a, c⟩, b⟩ => ⟨a, b, c⟩⟩
theorem rw_some {l : List Ob} {t : Int} {k m : Nat} (h : woR l t = some (k, m)) : ∃ o, l[k]? = some o ∧ o.ed = false ∧ HasW (toP o) t ∧ t % 8 = 0 ∧ m = ((t - o.ad) / 8).toNat := by
  unfold woR at h
  obtain ⟨j, hj, h⟩ := Option.bind_eq_some_iff.1 h
  obtain ⟨o, ho, h⟩ := Option.map_eq_some_iff.1 h
  cases h
  obtain ⟨x, hx, hi⟩ := lastF_some _ l k hj
  rw [ho] at hx
  cases hx
  obtain ⟨h1, h2, h3⟩ := inO_is.1 hi
  exact ⟨o, ho, h1, h2, h3, rfl⟩
theorem rw_none {l : List Ob} {t : Int} (h : woR l t = none) : ∀ o ∈ l, o.ed = false → t % 8 = 0 → ¬ HasW (toP o) t := by
  intro o ho h1 h2 h3
  unfold woR at h
  cases hl : lastF (inO t) l with
  | none =>
    have := lastF_none _ l hl o ho
    rw [inO_is.2 ⟨h1, h3, h2⟩] at this
    cases this
  | some k =>
    rw [hl] at h
    obtain ⟨x, hx, _⟩ := lastF_some _ l k hl
    simp only [Option.bind_some] at h
    rw [hx] at h
    cases h
theorem lvR_mem {l : List Ob} {a : Par} (h : a ∈ LvR l) : ∃ o ∈ l, o.ed = false ∧ toP o = a := by
  unfold LvR at h
  obtain ⟨o, ho, e⟩ := List.mem_map.1 h
  obtain ⟨h1, h2⟩ := List.mem_filter.1 ho
  exact ⟨o, h1, by simpa using h2, e⟩
theorem mem_lvR {l : List Ob} {o : Ob} (h : o ∈ l) (he : o.ed = false) : toP o ∈ LvR l := by
  unfold LvR
  exact List.mem_map.2 ⟨o, List.mem_filter.2 ⟨h, by simp [he]⟩, rfl⟩
theorem toP_kd (o : Ob) : ¬ (toP o).kd = 0 := by unfold toP; cases o.bk <;> simp
theorem at_toP {l : List Ob} {k : Nat} {o : Ob} (h : l[k]? = some o) : (l.map toP)[k]? = some (toP o) := by rw [List.getElem?_map, h]; rfl
/-- The program and the document find the same word. -/
theorem word_same {l : List Par} {os : List Ob} (h : Srt l) (hR : SrtR os) (he : LvS l = LvR os) (t : Int) : (woS l t = none ∧ woR os t = none) ∨ ∃ k k' m a o, woS l t = some (k, m) ∧ woR os t = some (k', m) ∧ l[k]? = some a ∧ os[k']? = some o ∧ toP o = a ∧ o.ed = false ∧ HasW a t ∧ m = ((t - a.ad) / 8).toNat := by
  cases hs : woS l t with
  | none =>
    cases hr : woR os t with
    | none => exact .inl ⟨rfl, rfl⟩
    | some km =>
      obtain ⟨k, m⟩ := km
      obtain ⟨o, ho, h1, h2, h3, h4⟩ := rw_some hr
      have hm := mem_lvR (List.mem_of_getElem? ho) h1
      rw [← he] at hm
      unfold LvS at hm
      obtain ⟨hm1, hm2⟩ := List.mem_filter.1 hm
      exact absurd h2 (wo_none h hs _ hm1 (toP_kd o) h3)
  | some km =>
    obtain ⟨k, m⟩ := km
    obtain ⟨a, ha, h1, h2, h3, h4⟩ := wo_some h hs
    have hm : a ∈ LvS l := List.mem_filter.2 ⟨List.mem_of_getElem? ha, by simp [h1]⟩
    rw [he] at hm
    obtain ⟨o, ho, hoe, ht⟩ := lvR_mem hm
    cases hr : woR os t with
    | none => exact absurd (by rw [ht]; exact h2) (rw_none hr o ho hoe h3)
    | some km' =>
      obtain ⟨k', m'⟩ := km'
      obtain ⟨o', ho', g1, g2, g3, g4⟩ := rw_some hr
      obtain ⟨i, hi⟩ := List.getElem?_of_mem ho
      have e := has_one hR (at_toP hi) (at_toP ho') (by rw [ht]; exact h2) g2
      subst e
      rw [hi] at ho'
      cases ho'
      have e2 : o.ad = a.ad := by rw [← ht]; rfl
      rw [e2, ← h4] at g4
      subst g4
      exact .inr ⟨k, i, m', a, o, rfl, rfl, ha, hi, ht, hoe, h2, h4⟩
/-- A word that is set. -/
theorem lvR_upd {os : List Ob} (hR : SrtR os) {t v : Int} {k : Nat} {o : Ob} (hk : os[k]? = some o) (ha : HasW (toP o) t) : LvR (os.set k { o with ws := o.ws.set ((t - o.ad) / 8).toNat v }) = (LvR os).map (updW t v) ∧ (os.set k { o with ws := o.ws.set ((t - o.ad) / 8).toNat v }).map toP = (os.map toP).map (updW t v) := by
  have e : os.set k { o with ws := o.ws.set ((t - o.ad) / 8).toNat v } = os.map fun x => if HasW (toP x) t then { x with ws := x.ws.set ((t - x.ad) / 8).toNat v } else x := by
    apply List.ext_getElem?
    intro j
    rw [List.getElem?_set, List.getElem?_map]
    by_cases e : k = j
    · subst e
      rw [if_pos rfl, if_pos (List.getElem?_eq_some_iff.1 hk).1, hk]
      simp only [Option.map_some, if_pos ha]
    · rw [if_neg e]
      cases hj : os[j]? with
      | none => rfl
      | some b =>
        have hb : ¬ HasW (toP b) t := fun hb => e (has_one hR (at_toP hk) (at_toP hj) ha hb)
        simp only [Option.map_some, if_neg hb]
  have e2 : ∀ x : Ob, toP (if HasW (toP x) t then { x with ws := x.ws.set ((t - x.ad) / 8).toNat v } else x) = updW t v (toP x) := fun x => by
    unfold updW
    by_cases hx : HasW (toP x) t
    · rw [if_pos hx, if_pos hx]; rfl
    · rw [if_neg hx, if_neg hx]
  have e3 : ∀ x : Ob, (if HasW (toP x) t then { x with ws := x.ws.set ((t - x.ad) / 8).toNat v } else x).ed = x.ed := fun x => by split <;> rfl
  rw [e]
  constructor
  · unfold LvR
    rw [List.filter_map, List.map_map, List.map_map]
    have e4 : (os.filter ((fun o => !o.ed) ∘ fun x => if HasW (toP x) t then { x with ws := x.ws.set ((t - x.ad) / 8).toNat v } else x)) = os.filter fun o => !o.ed := by
      apply List.filter_congr
      intro x _
      simp only [Function.comp, e3]
    rw [e4]
    apply List.map_congr_left
    intro x _
    exact e2 x
  · rw [List.map_map, List.map_map]
    apply List.map_congr_left
    intro x _
    exact e2 x
/-- A part that ends. -/
theorem lvR_end {os : List Ob} (hR : SrtR os) {k : Nat} {o : Ob} (hk : os[k]? = some o) : LvR (os.set k { o with ed := true }) = ((LvR os).filter fun a => decide (¬ a.ad = o.ad)) ∧ (os.set k { o with ed := true }).map toP = os.map toP := by
  have e : os.set k { o with ed := true } = os.map fun x => if x.ad = o.ad then { x with ed := true } else x := by
    apply List.ext_getElem?
    intro j
    rw [List.getElem?_set, List.getElem?_map]
    by_cases e : k = j
    · subst e
      rw [if_pos rfl, if_pos (List.getElem?_eq_some_iff.1 hk).1, hk]
      simp
    · rw [if_neg e]
      cases hj : os[j]? with
      | none => rfl
      | some b =>
        have hb : ¬ b.ad = o.ad := fun hb => e (ad_one hR (at_toP hk) (at_toP hj) hb.symm)
        simp [hb]
  rw [e]
  clear e hk hR
  constructor
  · unfold LvR
    induction os with
    | nil => rfl
    | cons x l ih =>
      rw [List.map_cons, List.filter_cons, List.filter_cons]
      by_cases h1 : x.ad = o.ad
      · rw [if_pos h1, if_neg (by simp), ih]
        cases h2 : x.ed with
        | true => rw [if_neg (by simp)]
        | false => rw [if_pos (by simp), List.map_cons, List.filter_cons, if_neg (by simp [toP, h1])]
      · rw [if_neg h1]
        cases h2 : x.ed with
        | true => rw [if_neg (by simp), if_neg (by simp), ih]
        | false => rw [if_pos (by simp), if_pos (by simp), List.map_cons, List.map_cons, List.filter_cons, if_pos (by simp [toP, h1]), ih]
  · rw [List.map_map]
    apply List.map_congr_left
    intro x _
    simp only [Function.comp]
    split <;> rfl
/-- The block that ends. -/
def frR (l : List Ob) (t c : Int) : Option Nat := l.findIdx? fun o => o.bk && (!o.ed && (decide (o.ad = t) && decide ((o.ws.length : Int) = c)))
theorem fr_some {l : List Ob} {t c : Int} {k : Nat} (h : frR l t c = some k) : ∃ o, l[k]? = some o ∧ o.bk = true ∧ o.ed = false ∧ o.ad = t ∧ (o.ws.length : Int) = c := by
  unfold frR at h
  obtain ⟨hk, h1, _⟩ := List.findIdx?_eq_some_iff_getElem.1 h
  refine ⟨l[k], List.getElem?_eq_getElem hk, ?_⟩
  simpa using h1
theorem fr_none {l : List Ob} {t c : Int} (h : frR l t c = none) : ∀ o ∈ l, o.bk = true → o.ed = false → o.ad = t → ¬ (o.ws.length : Int) = c := by
  intro o ho h1 h2 h3 h4
  unfold frR at h
  have := List.findIdx?_eq_none_iff.1 h o ho
  simp [h1, h2, h3, h4] at this
end
section
open Go.RowKit Go.Shelf
/-- The document's run: each call beside its part's number; all parts; the next address; the heap's words; what was not read; what was printed; the steps. -/
structure Rt where
  top : Cal × Nat
  low : List (Cal × Nat)
  os : List Ob
  nx : Int
  hp : Int
  inp : List UInt8
  out : List UInt8
  st : Nat
def wdR (l : List Ob) (k m : Nat) : Int := ((l[k]?).bind fun o => o.ws[m]?).getD 0
def wsR (l : List Ob) (k m : Nat) (v : Int) : List Ob := match l[k]? with
  | some o => l.set k { o with ws := o.ws.set m v }
  | none => l
def edR (l : List Ob) (k : Nat) : List Ob := match l[k]? with
  | some o => l.set k { o with ed := true }
  | none => l
def entR (p : List Fun) (r : Rt) (c : Cal) (k : Nat) (vs : List Int) (an : Int) : Rt := { r with top := (⟨k, vs ++ List.replicate (rgOf p k - vs.length) 0, r.nx, 0, 0, an⟩, r.os.length), low := (c, r.top.2) :: r.low, os := r.os ++ [⟨r.nx, List.replicate (frOf p k) 0, false, false⟩], nx := r.nx + 8 * ((frOf p k : Int) + 1) }
def bakR (r : Rt) (v : Int) : Rt ⊕ Oc := match r.low with
  | [] => .inr ⟨1, 0, r.out, r.st⟩
  | t :: l => .inl { r with top := (setR t.1 r.top.1.an v, t.2), low := l, os := edR r.os r.top.2 }
def calR (p : List Fun) (r : Rt) (i : Ins) : Rt ⊕ Oc :=
  let c := r.top.1
  let vs := i.gs.map (getR c)
  if i.nm.data.toList = [114, 116, 46, 112, 114, 105, 110, 116] then .inl { r with top := (setR c i.d 0, r.top.2), out := r.out ++ (Lib.itoa (vs.getD 0 0) ++ [10]) }
  else if i.nm.data.toList = [114, 116, 46, 114, 101, 97, 100] then .inl { r with top := (setR c i.d (match r.inp with | [] => -1 | b :: _ => (b.toNat : Int)), r.top.2), inp := r.inp.tail }
  else if i.nm.data.toList = [114, 116, 46, 97, 108, 108, 111, 99] then
    (if vs.getD 0 0 < 0 ∨ 64 < vs.getD 0 0 ∨ 8192 < r.hp + vs.getD 0 0 then .inr ⟨1, 110, r.out, r.st⟩
    else .inl { r with top := (setR c i.d r.nx, r.top.2), os := r.os ++ [⟨r.nx, List.replicate (vs.getD 0 0).toNat 0, true, false⟩], hp := r.hp + vs.getD 0 0, nx := r.nx + 8 * (vs.getD 0 0 + 1) })
  else if i.nm.data.toList = [114, 116, 46, 102, 114, 101, 101] then
    (match frR r.os (vs.getD 0 0) (vs.getD 1 0) with
    | some k => .inl { r with top := (setR c i.d 0, r.top.2), os := edR r.os k, hp := r.hp - vs.getD 1 0 }
    | none => .inr ⟨3, 0, r.out, r.st⟩)
  else if 1000 ≤ r.low.length + 1 then .inr ⟨2, 0, r.out, r.st - 1⟩
  else .inl (entR p r c (ixOf p i.nm) vs i.d)
def stpR (p : List Fun) (r : Rt) (i : Ins) : Rt ⊕ Oc :=
  let c : Cal := { r.top.1 with j := r.top.1.j + 1 }
  if i.op = 1 then .inl { r with top := (setR c i.d i.n, r.top.2) }
  else if i.op = 2 then .inl { r with top := (setR c i.d (getR c i.a), r.top.2) }
  else if i.op = 3 then .inl { r with top := (setR c i.d (binV i.nm.data.toList (getR c i.a) (getR c i.b)), r.top.2) }
  else if i.op = 4 then (match woR r.os (wrap64 (getR c i.a + i.n)) with
    | some (k, m) => .inl { r with top := (setR c i.d (wdR r.os k m), r.top.2) }
    | none => .inr ⟨3, 0, r.out, r.st⟩)
  else if i.op = 5 then (match woR r.os (wrap64 (getR c i.a + i.n)) with
    | some (k, m) => .inl { r with top := (c, r.top.2), os := wsR r.os k m (getR c i.b) }
    | none => .inr ⟨3, 0, r.out, r.st⟩)
  else if i.op = 6 then .inl { r with top := (setR c i.d (wrap64 (c.fr + wrap64 (8 * i.n))), r.top.2) }
  else if i.op = 7 then calR p { r with top := (c, r.top.2) } i
  else if i.op = 8 then .inl { r with top := ({ c with b := i.to.toNat, j := 0 }, r.top.2) }
  else if i.op = 9 then .inl { r with top := ({ c with b := (if getR c i.a = 0 then i.el else i.to).toNat, j := 0 }, r.top.2) }
  else if i.op = 10 then bakR { r with top := (c, r.top.2) } (getR c i.a)
  else .inr ⟨1, i.n, r.out, r.st⟩
/-- So many steps more. -/
def runR (p : List Fun) : Nat → Rt → Oc
  | 0, r => ⟨2, 0, r.out, r.st⟩
  | n + 1, r => match insAt p r.top.1 with
    | none => ⟨0, 0, r.out, r.st⟩
    | some i => match stpR p { r with st := r.st + 1 } i with
      | .inl r' => runR p n r'
      | .inr o => o
/-- A call's part. -/
def ObF (p : List Fun) (os : List Ob) (x : Cal × Nat) : Prop := ∃ o, os[x.2]? = some o ∧ o.bk = false ∧ o.ed = false ∧ o.ad = x.1.fr ∧ o.ws.length = frOf p x.1.k
/-- The two runs stand alike. -/
structure Sim (p : List Fun) (s : St) (r : Rt) : Prop where
  top : r.top.1 = s.top
  low : r.low.map (·.1) = s.low
  lv : LvS s.ps = LvR r.os
  srt : Srt s.ps
  srtR : SrtR r.os
  nx : r.nx = s.nx
  hp : r.hp = s.hp
  inp : r.inp = s.inp
  out : r.out = s.out
  st : r.st = s.st
  bnd : ∀ a ∈ s.ps, a.ad + 8 * ((a.ws.length : Int) + 1) ≤ s.nx
  bndR : ∀ o ∈ r.os, o.ad + 8 * ((o.ws.length : Int) + 1) ≤ s.nx
  fr : ∀ x ∈ r.top :: r.low, ObF p r.os x
  nd : ((r.top :: r.low).map (·.2)).Nodup
def Both (p : List Fun) (a : St ⊕ Oc) (b : Rt ⊕ Oc) : Prop := match a, b with
  | .inl s, .inl r => Sim p s r
  | .inr o, .inr o' => o = o'
  | _, _ => False
variable {p : List Fun} {s : St} {r : Rt}
/-- The innermost call alone is another one. -/
theorem Sim.put (h : Sim p s r) {c : Cal} (hk : c.k = s.top.k) (hf : c.fr = s.top.fr) : Sim p { s with top := c } { r with top := (c, r.top.2) } :=
  ⟨rfl, h.low, h.lv, h.srt, h.srtR, h.nx, h.hp, h.inp, h.out, h.st, h.bnd, h.bndR, (fun x hx => by
    rcases List.mem_cons.1 hx with rfl | hx
    · obtain ⟨o, h1, h2, h3, h4, h5⟩ := h.fr r.top (by simp)
      exact ⟨o, h1, h2, h3, by rw [h4, h.top, hf], by rw [h5, h.top, hk]⟩
    · exact h.fr x (by simp [hx])), h.nd⟩
theorem Sim.step (h : Sim p s r) : Sim p { s with top := { s.top with j := s.top.j + 1 } } { r with top := ({ s.top with j := s.top.j + 1 }, r.top.2) } := h.put rfl rfl
theorem Sim.putR (h : Sim p s r) (d v : Int) : Sim p { s with top := setR { s.top with j := s.top.j + 1 } d v } { r with top := (setR { s.top with j := s.top.j + 1 } d v, r.top.2) } := h.put (setR_j _ _ _).1 (setR_j _ _ _).2.2.2.2.2
theorem lvS_add (l : List Par) (a : Par) (h : ¬ a.kd = 0) : LvS (l ++ [a]) = LvS l ++ [a] := by
  unfold LvS
  rw [List.filter_append, List.filter_cons, if_pos (by simp [h])]
  rfl
theorem lvR_add (l : List Ob) (o : Ob) (h : o.ed = false) : LvR (l ++ [o]) = LvR l ++ [toP o] := by
  unfold LvR
  rw [List.filter_append, List.filter_cons, if_pos (by simp [h]), List.map_append]
  rfl
/-- A part more. -/
theorem Sim.add (h : Sim p s r) {kd : Int} {ws : List Int} {bk : Bool} {d : Int} (hk : kd = if bk then 2 else 1) (hd : d = (ws.length : Int)) : Sim p { s with ps := s.ps ++ [⟨kd, s.nx, ws⟩], nx := s.nx + 8 * (d + 1) } { r with os := r.os ++ [⟨r.nx, ws, bk, false⟩], nx := r.nx + 8 * (d + 1) } := by
  have hk0 : ¬ kd = 0 := by rw [hk]; cases bk <;> simp
  have e : (⟨kd, s.nx, ws⟩ : Par) = toP ⟨r.nx, ws, bk, false⟩ := by unfold toP; simp only []; rw [hk, h.nx]
  refine ⟨h.top, h.low, ?_, ?_, ?_, ?_, h.hp, h.inp, h.out, h.st, ?_, ?_, ?_, h.nd⟩
  · show LvS (s.ps ++ [⟨kd, s.nx, ws⟩]) = LvR (r.os ++ [⟨r.nx, ws, bk, false⟩])
    rw [lvS_add _ _ hk0, lvR_add _ _ rfl, h.lv, e]
  · exact srt_add h.srt (fun b hb => h.bnd b hb)
  · show Srt ((r.os ++ ([⟨r.nx, ws, bk, false⟩] : List Ob)).map toP)
    rw [List.map_append]
    show Srt (r.os.map toP ++ [toP ⟨r.nx, ws, bk, false⟩])
    refine srt_add h.srtR (fun b hb => ?_)
    obtain ⟨o, ho, rfl⟩ := List.mem_map.1 hb
    have := h.bndR o ho
    unfold Beh toP
    simp only []
    rw [h.nx]
    exact this
  · show r.nx + _ = s.nx + _
    rw [h.nx]
  · intro a ha
    rcases List.mem_append.1 ha with ha | ha
    · have := h.bnd a ha; show _ ≤ s.nx + 8 * (d + 1); omega
    · rw [List.mem_singleton.1 ha]; show s.nx + 8 * ((ws.length : Int) + 1) ≤ s.nx + 8 * (d + 1); omega
  · intro a ha
    rcases List.mem_append.1 ha with ha | ha
    · have := h.bndR a ha; show _ ≤ s.nx + 8 * (d + 1); omega
    · rw [List.mem_singleton.1 ha]
      have := h.nx
      show r.nx + 8 * ((ws.length : Int) + 1) ≤ s.nx + 8 * (d + 1)
      omega
  · intro x hx
    obtain ⟨o, h1, h2⟩ := h.fr x hx
    refine ⟨o, ?_, h2⟩
    show (r.os ++ _)[x.2]? = some o
    rw [List.getElem?_append_left (List.getElem?_eq_some_iff.1 h1).1]
    exact h1
/-- A word that is set. -/
theorem Sim.set (h : Sim p s r) {t v : Int} {k k' m : Nat} (hs : woS s.ps t = some (k, m)) (hr : woR r.os t = some (k', m)) : Sim p { s with ps := wdSet s.ps k m v } { r with os := wsR r.os k' m v } := by
  obtain ⟨o, ho, h1, h2, h3, h4⟩ := rw_some hr
  obtain ⟨e1, e2⟩ := lvR_upd h.srtR (v := v) ho h2
  have e3 : wsR r.os k' m v = r.os.set k' { o with ws := o.ws.set ((t - o.ad) / 8).toNat v } := by unfold wsR; rw [ho, h4]
  rw [e3, wd_set h.srt hs]
  refine ⟨h.top, h.low, ?_, srt_upd h.srt t v, ?_, h.nx, h.hp, h.inp, h.out, h.st, ?_, ?_, ?_, h.nd⟩
  · show LvS (s.ps.map (updW t v)) = LvR (r.os.set k' _)
    rw [e1, lv_upd, h.lv]
  · show Srt ((r.os.set k' _).map toP)
    rw [e2]
    exact srt_upd h.srtR t v
  · intro a ha
    obtain ⟨b, hb, rfl⟩ := List.mem_map.1 ha
    rw [updW_ad, updW_len]
    exact h.bnd b hb
  · intro a ha
    rcases List.mem_or_eq_of_mem_set ha with ha | ha
    · exact h.bndR a ha
    · rw [ha]
      simp only [List.length_set]
      exact h.bndR o (List.mem_of_getElem? ho)
  · intro x hx
    obtain ⟨u, g1, g2, g3, g4, g5⟩ := h.fr x hx
    by_cases e : k' = x.2
    · have hu : u = o := by rw [← e, ho] at g1; exact (Option.some.inj g1).symm
      subst hu
      refine ⟨{ u with ws := u.ws.set ((t - u.ad) / 8).toNat v }, ?_, g2, g3, g4, by simpa using g5⟩
      show (r.os.set k' _)[x.2]? = _
      rw [List.getElem?_set, if_pos e, if_pos (List.getElem?_eq_some_iff.1 ho).1]
    · refine ⟨u, ?_, g2, g3, g4, g5⟩
      show (r.os.set k' _)[x.2]? = _
      rw [List.getElem?_set, if_neg e]
      exact g1
end
end Go.Proofs.YtdppoblbenbafaaGreatDoor
