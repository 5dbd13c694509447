/- Two sources with blanks and a remark between them. -/
import Derived.Test.YtgdbfedagdlgkaaDoorC5
namespace Go.Proofs.YtgdbfedagdlgkaaDoor
open Go.RowKit Go.Shelf
theorem toks_fuel (s : ByteArray) (n : Nat) : ∀ (p f f' : Nat) (acc : List Tk), s.size - p ≤ n → s.size ≤ p + f → s.size ≤ p + f' → toks s f p acc = toks s f' p acc := by
  induction n with
  | zero =>
    intro p f f' acc h1 h2 h3
    rw [toks_end f acc (by omega), toks_end f' acc (by omega)]
  | succ n ih =>
    intro p f f' acc h1 h2 h3
    by_cases hp : p < s.size
    · obtain ⟨f, rfl⟩ : ∃ k, f = k + 1 := ⟨f - 1, by omega⟩
      obtain ⟨f', rfl⟩ : ∃ k, f' = k + 1 := ⟨f' - 1, by omega⟩
      cases hb : blB (bt s.data.toList p)
      · by_cases hr : 0 < rmk (s.data.toList.drop p)
        · rw [toks_rem f acc hp hb hr, toks_rem f' acc hp hb hr]
          exact ih _ _ _ _ (by omega) (by omega) (by omega)
        · by_cases he : (fsP s p).2.2.2 = 0
          · rw [toks_ok f acc hp hb (by omega) he, toks_ok f' acc hp hb (by omega) he]
            have := (fsP_ok s p he).1
            exact ih _ _ _ _ (by omega) (by omega) (by omega)
          · rw [toks_bad f acc hp hb (by omega) he, toks_bad f' acc hp hb (by omega) he]
      · rw [toks_blank f acc hp hb, toks_blank f' acc hp hb]
        exact ih _ _ _ _ (by omega) (by omega) (by omega)
    · rw [toks_end f acc hp, toks_end f' acc hp]
theorem rmk_eq (l : List UInt8) (k : Nat) (h0 : bt l 0 = 47) (h1 : bt l 1 = 47) (h2 : 2 ≤ k) (h3 : k ≤ l.length) (h4 : k = l.length ∨ bt l k = 10) (h5 : ∀ j, j < k → ¬ bt l j = 10) : rmk l = k := by
  match l, h0, h1, h3, h4, h5 with
  | a :: b :: r, h0, h1, h3, h4, h5 =>
    obtain rfl : a = 47 := UInt8.toNat_inj.1 h0
    obtain rfl : b = 47 := UInt8.toNat_inj.1 h1
    have hp : Lib.hasPrefix (47 :: 47 :: r) [47, 47] = true := by simp [Lib.hasPrefix, List.isPrefixOf]
    unfold rmk
    rw [hp, if_pos rfl]
    rcases index_nat (47 :: 47 :: r) 10 with ⟨e, g0⟩ | ⟨m, e, g2, g3, g4⟩
    · rw [e, if_neg (by omega)]
      rcases h4 with h4 | h4
      · exact h4.symm
      · rcases Nat.lt_or_ge k (47 :: 47 :: r).length with hk | hk
        · exact absurd h4 (g0 k hk)
        · omega
    · rw [e, if_pos (by omega), Int.toNat_natCast]
      rcases Nat.lt_trichotomy m k with hk | hk | hk
      · exact absurd g3 (h5 m hk)
      · exact hk
      · rcases h4 with h4 | h4
        · omega
        · exact absurd h4 (g4 k hk)
  | [a], _, _, h3, _, _ => simp at h3; omega
  | [], _, _, h3, _, _ => simp at h3; omega
theorem app_list (a b : ByteArray) : (a ++ b).data.toList = a.data.toList ++ b.data.toList := by simp
theorem bt_left {l m : List UInt8} {j : Nat} (h : j < l.length) : bt (l ++ m) j = bt l j := by
  simp [bt, List.getD, List.getElem?_append_left h]
theorem bt_right {l m : List UInt8} {j : Nat} (h : l.length ≤ j) : bt (l ++ m) j = bt m (j - l.length) := by
  simp [bt, List.getD, List.getElem?_append_right h]
theorem bt_none {l : List UInt8} {j : Nat} (h : l.length ≤ j) : bt l j = 0 := by
  unfold bt List.getD
  rw [List.getElem?_eq_none h]
  rfl
/-- A text and one behind it that begins with a byte 10. -/
structure Aft (l m : List UInt8) : Prop where
  pos : 0 < m.length
  ten : bt m 0 = 10
theorem nsz_app {l m : List UInt8} (h : Aft l m) : nsz (l ++ m) = nsz l := by
  have hle := nsz_le l
  refine nsz_eq (by simp; omega) (fun j hj => ?_) fun hk => ?_
  · rw [bt_left (by omega)]
    exact nsz_nm l hj
  · rcases Nat.lt_or_ge (nsz l) l.length with hlt | hge
    · rw [bt_left hlt]
      exact nsz_end l hlt
    · rw [bt_right hge, show nsz l - l.length = 0 by omega, h.ten]
      rfl
theorem sg_ten (b : Nat) : sg b 10 = sg b 0 := by
  unfold sg
  simp
  by_cases h : b = 58 ∨ b = 38
  · rw [if_neg (c := 10 = b) (by omega), if_neg (c := 0 = b) (by omega)]
  · rw [if_neg h, if_neg h]
theorem sgz_app {l m : List UInt8} (h : Aft l m) (hl : 0 < l.length) : sgz (l ++ m) = sgz l := by
  unfold sgz
  have hne : ¬ l = [] := fun e => by rw [e] at hl; simp at hl
  rw [if_neg hne, if_neg (by simp [hne]), bt_left hl]
  rcases Nat.lt_or_ge 1 l.length with h1 | h1
  · rw [bt_left h1]
  · rw [bt_right h1, bt_none h1, show 1 - l.length = 0 by omega, h.ten]
    exact sg_ten _
theorem fst_app {l m : List UInt8} (h : Aft l m) (hl : 0 < l.length) (wd : Nat) : fst (l ++ m) wd = fst l wd := by
  have hle := nsz_le l
  unfold fst
  rw [nsz_app h, sgz_app h hl, bt_left hl, List.take_append_of_le_length hle]
theorem rmk_app {l m : List UInt8} (h : Aft l m) : rmk (l ++ m) = rmk l := by
  by_cases hr : 0 < rmk l
  · obtain ⟨r0, r1, r2, r3, r4, r5, r6⟩ := rmk_pos _ hr
    refine rmk_eq _ _ (by rw [bt_left (by omega)]; exact r0) (by rw [bt_left (by omega)]; exact r1) r4 (by simp; omega) ?_ fun j hj => by rw [bt_left (by omega)]; exact r6 j hj
    rcases r5 with r5 | r5
    · right
      rw [bt_right (by omega), show rmk l - l.length = 0 by omega]
      exact h.ten
    · rcases Nat.lt_or_ge (rmk l) l.length with hlt | hge
      · right
        rw [bt_left hlt]
        exact r5
      · right
        rw [bt_right hge, show rmk l - l.length = 0 by omega]
        exact h.ten
  · by_cases hr' : 0 < rmk (l ++ m)
    · exfalso
      obtain ⟨r0, r1, r2, r3, r4, r5, r6⟩ := rmk_pos _ hr'
      have hlen : 1 < l.length := by
        rcases Nat.lt_or_ge 1 l.length with h1 | h1
        · exact h1
        · rw [bt_right h1] at r1
          rcases (by omega : l.length = 0 ∨ l.length = 1) with e | e
          · rw [bt_right (by omega), show 0 - l.length = 0 by omega, h.ten] at r0
            omega
          · rw [show 1 - l.length = 0 by omega, h.ten] at r1
            omega
      rw [bt_left (by omega)] at r0
      rw [bt_left (by omega)] at r1
      match l, hlen, r0, r1, hr with
      | a :: b :: r, _, r0, r1, hr =>
        obtain rfl : a = 47 := UInt8.toNat_inj.1 r0
        obtain rfl : b = 47 := UInt8.toNat_inj.1 r1
        have hp : Lib.hasPrefix (47 :: 47 :: r) [47, 47] = true := by simp [Lib.hasPrefix, List.isPrefixOf]
        apply hr
        unfold rmk
        rw [hp, if_pos rfl]
        rcases index_nat (47 :: 47 :: r) 10 with ⟨e, g0⟩ | ⟨k, e, g2, g3, g4⟩
        · rw [e, if_neg (by omega)]
          simp
        · rw [e, if_pos (by omega), Int.toNat_natCast]
          rcases (by omega : k = 0 ∨ 0 < k) with rfl | hk
          · simp [bt] at g3
          · exact hk
    · omega
theorem dec_app (a c : ByteArray) (hc : 0 < c.size) (h10 : bt c.data.toList 0 = 10) (p : Nat) (hp : p < a.size) : Utf8.decode (a ++ c) p = Utf8.decode a p := by
  have hL := len_of a
  have hb : ∀ j, p + j < a.size → bt (a ++ c).data.toList (p + j) = bt a.data.toList (p + j) := fun j hj => by rw [app_list, bt_left (by omega)]
  have ht : ∀ j, p + j = a.size → bt (a ++ c).data.toList (p + j) = 10 := fun j hj => by rw [app_list, bt_right (by omega), show p + j - a.data.toList.length = 0 by omega]; exact h10
  rw [Lib.decode_at, Lib.decode_at]
  simp only [get_bt]
  have hz : (a ++ c).size = a.size + c.size := by simp
  rw [show bt (a ++ c).data.toList p = bt a.data.toList p from hb 0 hp, hz]
  have b1 := hb 1
  have b2 := hb 2
  have b3 := hb 3
  have t1 := ht 1
  have t2 := ht 2
  have t3 := ht 3
  generalize bt (a ++ c).data.toList (p + 1) = c1 at *
  generalize bt (a ++ c).data.toList (p + 2) = c2 at *
  generalize bt (a ++ c).data.toList (p + 3) = c3 at *
  generalize bt a.data.toList (p + 1) = d1 at *
  generalize bt a.data.toList (p + 2) = d2 at *
  generalize bt a.data.toList (p + 3) = d3 at *
  generalize bt a.data.toList p = d0 at *
  generalize c.size = m at *
  generalize a.size = n at *
  clear hb ht hL hz h10
  rcases (by omega : p + 1 = n ∨ p + 2 = n ∨ p + 3 = n ∨ p + 3 < n) with e | e | e | e
  · have := t1 e
    subst this
    unfold Lib.decodeN
    rw [if_neg (c := d0 / 32 = 6 ∧ (1 < n + m - p ∧ 10 / 64 = 2)) (by omega), if_neg (c := d0 / 16 = 14 ∧ (1 < n + m - p ∧ 10 / 64 = 2) ∧ (2 < n + m - p ∧ c2 / 64 = 2)) (by omega), if_neg (c := d0 / 8 = 30 ∧ (1 < n + m - p ∧ 10 / 64 = 2) ∧ (2 < n + m - p ∧ c2 / 64 = 2) ∧ (3 < n + m - p ∧ c3 / 64 = 2)) (by omega), if_neg (c := d0 / 32 = 6 ∧ (1 < n - p ∧ d1 / 64 = 2)) (by omega), if_neg (c := d0 / 16 = 14 ∧ (1 < n - p ∧ d1 / 64 = 2) ∧ (2 < n - p ∧ d2 / 64 = 2)) (by omega), if_neg (c := d0 / 8 = 30 ∧ (1 < n - p ∧ d1 / 64 = 2) ∧ (2 < n - p ∧ d2 / 64 = 2) ∧ (3 < n - p ∧ d3 / 64 = 2)) (by omega)]
  · have x2 := t2 e
    have x1 := b1 (by omega)
    rw [x1, x2]
    unfold Lib.decodeN
    rw [if_neg (c := d0 / 16 = 14 ∧ (1 < n + m - p ∧ d1 / 64 = 2) ∧ (2 < n + m - p ∧ 10 / 64 = 2)) (by omega), if_neg (c := d0 / 8 = 30 ∧ (1 < n + m - p ∧ d1 / 64 = 2) ∧ (2 < n + m - p ∧ 10 / 64 = 2) ∧ (3 < n + m - p ∧ c3 / 64 = 2)) (by omega), if_neg (c := d0 / 16 = 14 ∧ (1 < n - p ∧ d1 / 64 = 2) ∧ (2 < n - p ∧ d2 / 64 = 2)) (by omega), if_neg (c := d0 / 8 = 30 ∧ (1 < n - p ∧ d1 / 64 = 2) ∧ (2 < n - p ∧ d2 / 64 = 2) ∧ (3 < n - p ∧ d3 / 64 = 2)) (by omega)]
    have q : (d0 / 32 = 6 ∧ (1 < n + m - p ∧ d1 / 64 = 2)) = (d0 / 32 = 6 ∧ (1 < n - p ∧ d1 / 64 = 2)) := by
      simp only [show 1 < n + m - p by omega, show 1 < n - p by omega]
    simp only [q]
  · have x3 := t3 e
    have x1 := b1 (by omega)
    have x2 := b2 (by omega)
    rw [x1, x2, x3]
    unfold Lib.decodeN
    rw [if_neg (c := d0 / 8 = 30 ∧ (1 < n + m - p ∧ d1 / 64 = 2) ∧ (2 < n + m - p ∧ d2 / 64 = 2) ∧ (3 < n + m - p ∧ 10 / 64 = 2)) (by omega), if_neg (c := d0 / 8 = 30 ∧ (1 < n - p ∧ d1 / 64 = 2) ∧ (2 < n - p ∧ d2 / 64 = 2) ∧ (3 < n - p ∧ d3 / 64 = 2)) (by omega)]
    simp only [show 1 < n + m - p by omega, show 1 < n - p by omega, show 2 < n + m - p by omega, show 2 < n - p by omega]
  · have x1 := b1 (by omega)
    have x2 := b2 (by omega)
    have x3 := b3 (by omega)
    rw [x1, x2, x3]
    unfold Lib.decodeN
    simp only [show 1 < n + m - p by omega, show 1 < n - p by omega, show 2 < n + m - p by omega, show 2 < n - p by omega, show 3 < n + m - p by omega, show 3 < n - p by omega]
theorem dec_shift (a b : ByteArray) (p : Nat) : Utf8.decode (a ++ b) (a.size + p) = Utf8.decode b p := by
  have hL := len_of a
  rw [Lib.decode_at, Lib.decode_at]
  simp only [get_bt]
  have hz : (a ++ b).size = a.size + b.size := by simp
  have hb : ∀ j, bt (a ++ b).data.toList (a.size + j) = bt b.data.toList j := fun j => by rw [app_list, bt_right (by omega), hL, Nat.add_sub_cancel_left]
  rw [hz, show a.size + b.size - (a.size + p) = b.size - p by omega, hb, show a.size + p + 1 = a.size + (p + 1) by omega, hb, show a.size + p + 2 = a.size + (p + 2) by omega, hb, show a.size + p + 3 = a.size + (p + 3) by omega, hb]
end Go.Proofs.YtgdbfedagdlgkaaDoor
