/- The tokens of two sources with blanks and a remark between them. -/
import Derived.Test.YtgdbfedagdlgkaaDoorL1
namespace Go.Proofs.YtgdbfedagdlgkaaDoor
open Go.RowKit Go.Shelf
theorem app_size (a b : ByteArray) : (a ++ b).size = a.size + b.size := by simp
section Left
variable {a c : ByteArray} (hc : 0 < c.size) (h10 : bt c.data.toList 0 = 10)
include hc h10
theorem left_drop {p : Nat} (hp : p < a.size) : (a ++ c).data.toList.drop p = a.data.toList.drop p ++ c.data.toList ∧ Aft (a.data.toList.drop p) c.data.toList ∧ 0 < (a.data.toList.drop p).length := by
  have hL := len_of a
  have hL2 := len_of c
  refine ⟨by rw [app_list, List.drop_append_of_le_length (by omega)], ⟨by omega, h10⟩, by rw [List.length_drop]; omega⟩
theorem left_rmk {p : Nat} (hp : p < a.size) : rmk ((a ++ c).data.toList.drop p) = rmk (a.data.toList.drop p) := by
  obtain ⟨e, h, _⟩ := left_drop hc h10 hp
  rw [e, rmk_app h]
theorem left_fsP {p : Nat} (hp : p < a.size) : fsP (a ++ c) p = fsP a p := by
  obtain ⟨e, h, h2⟩ := left_drop hc h10 hp
  unfold fsP
  rw [e, fst_app h h2, dec_app a c hc h10 p hp]
omit hc h10 in
theorem left_bt {p : Nat} (hp : p < a.size) : bt (a ++ c).data.toList p = bt a.data.toList p := by
  have hL := len_of a
  rw [app_list, bt_left (by omega)]
theorem left_tokT {p : Nat} (hp : p < a.size) : tokT (a ++ c) p = tokT a p := by
  have hle := fsP_le a p hp
  have hL := len_of a
  unfold tokT
  rw [left_fsP hc h10 hp]
  congr 1
  refine bytes_ext ?_
  rw [toList_cut, toList_cut, (left_drop hc h10 hp).1, List.take_append_of_le_length (by rw [List.length_drop]; omega)]
theorem toks_left (f : Nat) : ∀ (p : Nat) (acc : List Tk), p ≤ a.size → a.size ≤ p + f → (∀ l, toks a f p acc = .ok l → ∃ r, l = r ++ [endT a] ∧ toks (a ++ c) (f + c.size) p acc = toks (a ++ c) c.size a.size r) ∧ ∀ e x y, toks a f p acc = .bad e x y → toks (a ++ c) (f + c.size) p acc = .bad e x y := by
  have hz := app_size a c
  induction f with
  | zero =>
    intro p acc h1 h2
    obtain rfl : p = a.size := by omega
    refine ⟨fun l h => ?_, fun e x y h => by cases h⟩
    cases h
    exact ⟨acc, rfl, by rw [Nat.zero_add]⟩
  | succ f ih =>
    intro p acc h1 h2
    rw [show f + 1 + c.size = f + c.size + 1 by omega]
    by_cases hp : p < a.size
    · have hp' : p < (a ++ c).size := by omega
      cases hb : blB (bt a.data.toList p)
      · have hb' : blB (bt (a ++ c).data.toList p) = false := by rw [left_bt hp]; exact hb
        have er := left_rmk hc h10 hp
        have ef := left_fsP hc h10 hp
        by_cases hr : 0 < rmk (a.data.toList.drop p)
        · have hle : p + rmk (a.data.toList.drop p) ≤ a.size := by
            obtain ⟨_, _, h3, h4, _⟩ := rmk_pos _ hr
            rw [List.length_drop, len_of] at h3 h4
            omega
          rw [toks_rem f acc hp hb hr, toks_rem (f + c.size) acc hp' hb' (by rw [er]; exact hr), er]
          exact ih _ _ hle (by omega)
        · by_cases he : (fsP a p).2.2.2 = 0
          · have hk := fsP_ok a p he
            rw [toks_ok f acc hp hb (by omega) he, toks_ok (f + c.size) acc hp' hb' (by rw [er]; omega) (by rw [ef]; exact he), ef, left_tokT hc h10 hp]
            exact ih _ _ hk.2.1 (by omega)
          · rw [toks_bad f acc hp hb (by omega) he, toks_bad (f + c.size) acc hp' hb' (by rw [er]; omega) (by rw [ef]; exact he), ef]
            exact ⟨fun l h => by (cases h), fun e x y h => h⟩
      · rw [toks_blank f acc hp hb, toks_blank (f + c.size) acc hp' (by rw [left_bt hp]; exact hb)]
        exact ih _ _ (by omega) (by omega)
    · obtain rfl : p = a.size := by omega
      rw [toks_end (f + 1) acc (by omega)]
      refine ⟨fun l h => ?_, fun e x y h => by cases h⟩
      cases h
      exact ⟨acc, rfl, toks_fuel _ _ _ _ _ _ (Nat.le_refl _) (by omega) (by omega)⟩
theorem left_bad {p : Nat} (hp : p < a.size) : badB (a ++ c) p = badB a p := by
  unfold badB
  rw [dec_app a c hc h10 p hp]
end Left
theorem stray_fuel (s : ByteArray) (n : Nat) : ∀ p f f', s.size - p ≤ n → s.size ≤ p + f → s.size ≤ p + f' → stray s f p = stray s f' p := by
  induction n with
  | zero =>
    intro p f f' h1 h2 h3
    rw [stray_end f (by omega), stray_end f' (by omega)]
  | succ n ih =>
    intro p f f' h1 h2 h3
    by_cases hp : p < s.size
    · obtain ⟨f, rfl⟩ : ∃ k, f = k + 1 := ⟨f - 1, by omega⟩
      obtain ⟨f', rfl⟩ : ∃ k, f' = k + 1 := ⟨f' - 1, by omega⟩
      have hw := Lib.width_pos s p
      rw [stray_step f hp, stray_step f' hp, ih _ f f' (by omega) (by omega) (by omega)]
    · rw [stray_end f hp, stray_end f' hp]
theorem stray_go {s : ByteArray} {p : Nat} (hp : p < s.size) : stray s s.size p = if badB s p then some p else stray s s.size (p + (Utf8.decode s p).2) := by
  obtain ⟨k, hk⟩ : ∃ k, s.size = k + 1 := ⟨s.size - 1, by omega⟩
  have hw := Lib.width_pos s p
  have e : stray s k (p + (Utf8.decode s p).2) = stray s s.size (p + (Utf8.decode s p).2) := stray_fuel s _ _ _ _ (Nat.le_refl _) (by omega) (by omega)
  rw [← e]
  conv => lhs; rw [hk]
  exact stray_step k hp
theorem stray_left {a c : ByteArray} (hc : 0 < c.size) (h10 : bt c.data.toList 0 = 10) (f : Nat) : ∀ p, p ≤ a.size → a.size ≤ p + f → stray (a ++ c) (a ++ c).size p = match stray a f p with
    | some q => some q
    | none => stray (a ++ c) (a ++ c).size a.size := by
  have hz := app_size a c
  induction f with
  | zero =>
    intro p h1 h2
    obtain rfl : p = a.size := by omega
    rfl
  | succ f ih =>
    intro p h1 h2
    by_cases hp : p < a.size
    · have hw := width_le a p hp
      have hw2 := Lib.width_pos a p
      rw [stray_step f hp, stray_go (by omega), left_bad hc h10 hp, dec_app a c hc h10 p hp]
      cases badB a p
      · simp only [Bool.false_eq_true, if_false]
        exact ih _ hw (by omega)
      · rfl
    · obtain rfl : p = a.size := by omega
      rw [stray_end _ (by omega : ¬ a.size < a.size)]
theorem stray_asc {s : ByteArray} {p : Nat} (hp : p < s.size) (h : bt s.data.toList p < 128) : stray s s.size p = stray s s.size (p + 1) := by
  rw [stray_go hp]
  have hb : badB s p = false := by
    unfold badB
    rw [dec_asc s p h]
    simp
    omega
  rw [hb, dec_asc s p h]
  rfl
theorem stray_shift (a b : ByteArray) (f : Nat) : ∀ p, stray (a ++ b) f (a.size + p) = (stray b f p).map (a.size + ·) := by
  have hz := app_size a b
  induction f with
  | zero => intro p; rfl
  | succ f ih =>
    intro p
    by_cases hp : p < b.size
    · rw [stray_step f hp, stray_step f (by omega : a.size + p < (a ++ b).size)]
      unfold badB
      rw [dec_shift]
      split
      · rfl
      · rw [Nat.add_assoc, ih]
    · rw [stray_end _ hp, stray_end _ (by omega)]
      rfl
def shT (m : Nat) (t : Tk) : Tk := ⟨t.k, t.t, t.v, m + t.fr, m + t.en⟩
def shR (m : Nat) (acc : List Tk) : Res → Res
  | .ok l => .ok (acc ++ l.map (shT m))
  | .bad c x y => .bad c (m + x) (m + y)
theorem right_drop (a b : ByteArray) (p : Nat) : (a ++ b).data.toList.drop (a.size + p) = b.data.toList.drop p := by
  rw [app_list, ← len_of a, List.drop_append]
  simp
theorem right_bt (a b : ByteArray) (p : Nat) : bt (a ++ b).data.toList (a.size + p) = bt b.data.toList p := by
  have hL := len_of a
  rw [app_list, bt_right (by omega), hL, Nat.add_sub_cancel_left]
theorem right_fsP (a b : ByteArray) (p : Nat) : fsP (a ++ b) (a.size + p) = fsP b p := by
  unfold fsP
  rw [right_drop, dec_shift]
theorem right_tokT (a b : ByteArray) (p : Nat) : tokT (a ++ b) (a.size + p) = shT a.size (tokT b p) := by
  unfold tokT shT
  rw [right_fsP]
  simp only [Nat.add_assoc]
  congr 1
  refine bytes_ext ?_
  rw [toList_cut, toList_cut, right_drop, show a.size + (p + (fsP b p).2.1) - (a.size + p) = p + (fsP b p).2.1 - p by omega]
theorem toks_shift (a b : ByteArray) (acc : List Tk) (f : Nat) : ∀ (p : Nat) (accb : List Tk), toks (a ++ b) f (a.size + p) (acc ++ accb.map (shT a.size)) = shR a.size acc (toks b f p accb) := by
  have hz := app_size a b
  have hend : endT (a ++ b) = shT a.size (endT b) := by
    unfold endT shT
    rw [hz]
  induction f with
  | zero =>
    intro p accb
    show Res.ok _ = Res.ok _
    rw [hend]
    simp
  | succ f ih =>
    intro p accb
    by_cases hp : p < b.size
    · have hp' : a.size + p < (a ++ b).size := by omega
      cases hb : blB (bt b.data.toList p)
      · have hb' : blB (bt (a ++ b).data.toList (a.size + p)) = false := by rw [right_bt]; exact hb
        by_cases hr : 0 < rmk (b.data.toList.drop p)
        · rw [toks_rem f accb hp hb hr, toks_rem f _ hp' hb' (by rw [right_drop]; exact hr), right_drop, Nat.add_assoc]
          exact ih _ _
        · by_cases he : (fsP b p).2.2.2 = 0
          · rw [toks_ok f accb hp hb (by omega) he, toks_ok f _ hp' hb' (by rw [right_drop]; omega) (by rw [right_fsP]; exact he), right_fsP, right_tokT, Nat.add_assoc, List.append_assoc, show accb.map (shT a.size) ++ [shT a.size (tokT b p)] = (accb ++ [tokT b p]).map (shT a.size) by simp]
            exact ih _ _
          · rw [toks_bad f accb hp hb (by omega) he, toks_bad f _ hp' hb' (by rw [right_drop]; omega) (by rw [right_fsP]; exact he), right_fsP, Nat.add_assoc]
            rfl
      · rw [toks_blank f accb hp hb, toks_blank f _ hp' (by rw [right_bt]; exact hb), Nat.add_assoc]
        exact ih _ _
    · rw [toks_end _ accb hp, toks_end _ _ (by omega), hend]
      show Res.ok _ = Res.ok _
      simp
def mid : ByteArray := ⟨#[10, 47, 47, 32, 120, 10, 32, 9]⟩
theorem mid_app (a b : ByteArray) : a ++ mid ++ b = a ++ (mid ++ b) := bytes_ext (by simp only [app_list, List.append_assoc])
theorem mid_list (b : ByteArray) : (mid ++ b).data.toList = 10 :: 47 :: 47 :: 32 :: 120 :: 10 :: 32 :: 9 :: b.data.toList := by rw [app_list]; rfl
theorem mid_toks (a b : ByteArray) (f : Nat) (acc : List Tk) : toks (a ++ (mid ++ b)) (f + 5) a.size acc = toks (a ++ (mid ++ b)) f (a.size + 8) acc := by
  have hz := app_size a (mid ++ b)
  have hz2 : (mid ++ b).size = 8 + b.size := by rw [app_size]; rfl
  have hb : ∀ j, bt (a ++ (mid ++ b)).data.toList (a.size + j) = bt (10 :: 47 :: 47 :: 32 :: 120 :: 10 :: 32 :: 9 :: b.data.toList) j := fun j => by rw [right_bt, mid_list]
  have hr : rmk ((a ++ (mid ++ b)).data.toList.drop (a.size + 1)) = 4 := by
    rw [right_drop, mid_list]
    show rmk (47 :: 47 :: 32 :: 120 :: 10 :: 32 :: 9 :: b.data.toList) = 4
    refine rmk_eq _ 4 rfl rfl (by omega) (by simp) (.inr rfl) fun j hj => ?_
    rcases (by omega : j = 0 ∨ j = 1 ∨ j = 2 ∨ j = 3) with rfl | rfl | rfl | rfl <;> simp [bt]
  rw [show a.size = a.size + 0 by omega]
  rw [toks_blank (f + 4) acc (by omega) (by rw [hb]; rfl)]
  rw [show a.size + 0 + 1 = a.size + 1 by omega, toks_rem (f + 3) acc (by omega) (by rw [hb]; rfl) (by rw [hr]; omega), hr]
  rw [show a.size + 1 + 4 = a.size + 5 by omega, toks_blank (f + 2) acc (by omega) (by rw [hb]; rfl)]
  rw [show a.size + 5 + 1 = a.size + 6 by omega, toks_blank (f + 1) acc (by omega) (by rw [hb]; rfl)]
  rw [show a.size + 6 + 1 = a.size + 7 by omega, toks_blank f acc (by omega) (by rw [hb]; rfl)]
theorem mid_stray (a b : ByteArray) : stray (a ++ (mid ++ b)) (a ++ (mid ++ b)).size a.size = stray (a ++ (mid ++ b)) (a ++ (mid ++ b)).size (a.size + 8) := by
  have hz := app_size a (mid ++ b)
  have hz2 : (mid ++ b).size = 8 + b.size := by rw [app_size]; rfl
  have hs : ∀ j, j < 8 → stray (a ++ (mid ++ b)) (a ++ (mid ++ b)).size (a.size + j) = stray (a ++ (mid ++ b)) (a ++ (mid ++ b)).size (a.size + (j + 1)) := fun j hj => by
    rw [← Nat.add_assoc]
    refine stray_asc (by omega) ?_
    rw [right_bt, mid_list]
    rcases (by omega : j = 0 ∨ j = 1 ∨ j = 2 ∨ j = 3 ∨ j = 4 ∨ j = 5 ∨ j = 6 ∨ j = 7) with rfl | rfl | rfl | rfl | rfl | rfl | rfl | rfl <;> simp [bt]
  have h0 := hs 0 (by omega)
  rw [Nat.add_zero] at h0
  rw [h0, hs 1 (by omega), hs 2 (by omega), hs 3 (by omega), hs 4 (by omega), hs 5 (by omega), hs 6 (by omega), hs 7 (by omega)]
theorem whole_stray (a b : ByteArray) : stray (a ++ mid ++ b) (a ++ mid ++ b).size 0 = match stray a a.size 0 with
    | some q => some q
    | none => (stray b b.size 0).map (a.size + 8 + ·) := by
  have hz := app_size a (mid ++ b)
  have hz2 : (mid ++ b).size = 8 + b.size := by rw [app_size]; rfl
  have hz3 : (a ++ mid).size = a.size + 8 := by rw [app_size]; rfl
  have e1 := stray_left (a := a) (c := mid ++ b) (by omega) (by rw [mid_list]; rfl) a.size 0 (by omega) (by omega)
  have e2 := stray_shift (a ++ mid) b (a ++ mid ++ b).size 0
  rw [mid_app] at e2 ⊢
  rw [e1, mid_stray]
  cases stray a a.size 0 with
  | some q => rfl
  | none =>
    simp only
    rw [hz3, Nat.add_zero] at e2
    rw [e2, stray_fuel b _ 0 (a ++ (mid ++ b)).size b.size (Nat.le_refl _) (by omega) (by omega)]
theorem whole_toks (a b : ByteArray) : (∀ l, toks a a.size 0 [] = .ok l → ∃ r, l = r ++ [endT a] ∧ toks (a ++ mid ++ b) (a ++ mid ++ b).size 0 [] = shR (a.size + 8) r (toks b b.size 0 [])) ∧ ∀ e x y, toks a a.size 0 [] = .bad e x y → toks (a ++ mid ++ b) (a ++ mid ++ b).size 0 [] = .bad e x y := by
  have hz := app_size a (mid ++ b)
  have hz2 : (mid ++ b).size = 8 + b.size := by rw [app_size]; rfl
  have hz3 : (a ++ mid).size = a.size + 8 := by rw [app_size]; rfl
  obtain ⟨h1, h2⟩ := toks_left (a := a) (c := mid ++ b) (by omega) (by rw [mid_list]; rfl) a.size 0 [] (by omega) (by omega)
  rw [mid_app, hz]
  refine ⟨fun l hl => ?_, h2⟩
  obtain ⟨r, e, h⟩ := h1 l hl
  refine ⟨r, e, ?_⟩
  have e2 := toks_shift (a ++ mid) b r b.size 0 []
  rw [mid_app, hz3, Nat.add_zero] at e2
  simp only [List.map_nil, List.append_nil] at e2
  rw [h, ← e2, hz2, show 8 + b.size = (3 + b.size) + 5 by omega, mid_toks]
  exact toks_fuel _ _ _ _ _ _ (Nat.le_refl _) (by omega) (by omega)
/-- Two sources with blanks and a remark between them. -/
theorem tokR_whole (a b : ByteArray) (hab : a.size + b.size ≤ 60000) :
    (∀ e x y, tokR a = .bad e x y → ∃ e x y, tokR (a ++ mid ++ b) = .bad e x y) ∧
    (∀ l e x y, tokR a = .ok l → tokR b = .bad e x y → ∃ e x y, tokR (a ++ mid ++ b) = .bad e x y) ∧
    (∀ l m, tokR a = .ok l → tokR b = .ok m → ∃ r, l = r ++ [endT a] ∧ tokR (a ++ mid ++ b) = .ok (r ++ m.map (shT (a.size + 8)))) := by
  have hz : (a ++ mid ++ b).size = a.size + 8 + b.size := by rw [app_size, app_size]; rfl
  have hS := whole_stray a b
  obtain ⟨hT1, hT2⟩ := whole_toks a b
  unfold tokR
  rw [if_neg (by omega : ¬ 65536 < a.size), if_neg (by omega : ¬ 65536 < b.size), if_neg (by omega : ¬ 65536 < (a ++ mid ++ b).size), hS]
  cases ha : stray a a.size 0 with
  | some q => exact ⟨fun e x y _ => ⟨_, _, _, rfl⟩, fun l e x y h => by (cases h), fun l m h => by (cases h)⟩
  | none =>
    simp only
    cases hb : stray b b.size 0 with
    | some q => exact ⟨fun e x y _ => ⟨_, _, _, rfl⟩, fun l e x y _ _ => ⟨_, _, _, rfl⟩, fun l m _ h => by (cases h)⟩
    | none =>
      simp only [Option.map_none]
      refine ⟨fun e x y h => ⟨e, x, y, hT2 e x y h⟩, fun l e x y h h' => ?_, fun l m h h' => ?_⟩
      · obtain ⟨r, _, e2⟩ := hT1 l h
        rw [e2, h']
        exact ⟨_, _, _, rfl⟩
      · obtain ⟨r, e1, e2⟩ := hT1 l h
        refine ⟨r, e1, ?_⟩
        rw [e2, h']
        rfl
end Go.Proofs.YtgdbfedagdlgkaaDoor
