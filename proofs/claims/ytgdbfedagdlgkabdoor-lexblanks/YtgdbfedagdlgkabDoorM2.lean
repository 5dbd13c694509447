/- A token's kind, text and number alone; how many tokens there are. -/
import Derived.Test.YtgdbfedagdlgkabDoorM1
import Derived.Test.YtgdbfedagdlgkabDoorL2
namespace Go.Proofs.YtgdbfedagdlgkabDoor
open Go.RowKit Go.Shelf
set_option maxRecDepth 100000 in
set_option maxHeartbeats 4000000 in
theorem plain6 (k v a b : Int) (t : ByteArray) (w : World) : Calls Tryd.prog 6 #[.agg #[.int .i64 k, .string t, .int .i64 v, .int .i64 a, .int .i64 b]] w fun e w' => e = .returned (.agg #[.int .i64 k, .string t, .int .i64 (if k = 3 then v else 0), .int .i64 0, .int .i64 0]) ∧ Below w.heap.size w w' := by
  have hbl : ∀ o o' : Obj, Below w.heap.size w ((w.alloc o).alloc o') := fun o o' => ((Below.refl _ w).alloc (Nat.le_refl _) o).alloc (by simp) o'
  by_cases h : k = 3
  · subst h
    rw [if_pos rfl]
    go_enter Tryd.func6, Tryd.ntmps6
    go_wp2
    exact bodyPost_ret (v := .agg #[.int .i64 3, .string t, .int .i64 v, .int .i64 0, .int .i64 0]) (by simp [results, Tryd.results6, go_sem]) rfl ⟨rfl, hbl _ _⟩
  · rw [if_neg h]
    go_enter Tryd.func6, Tryd.ntmps6
    go_wp2
    exact bodyPost_ret (v := .agg #[.int .i64 k, .string t, .int .i64 0, .int .i64 0, .int .i64 0]) (by simp [results, Tryd.results6, go_sem]) rfl ⟨rfl, hbl _ _⟩
theorem toks_len (s : ByteArray) (f : Nat) : ∀ (p : Nat) (acc l : List Tk), toks s f p acc = .ok l → l.length ≤ acc.length + (s.size - p) + 1 ∧ 0 < l.length := by
  induction f with
  | zero =>
    intro p acc l h
    cases h
    simp
  | succ f ih =>
    intro p acc l h
    by_cases hlt : p < s.size
    · cases hb : blB (bt s.data.toList p)
      · by_cases hr : 0 < rmk (s.data.toList.drop p)
        · rw [toks_rem f acc hlt hb hr] at h
          have := ih _ _ _ h
          omega
        · by_cases he : (fsP s p).2.2.2 = 0
          · rw [toks_ok f acc hlt hb (by omega) he] at h
            obtain ⟨k1, k2, _⟩ := fsP_ok s p he
            have := ih _ _ _ h
            simp at this
            omega
          · rw [toks_bad f acc hlt hb (by omega) he] at h
            cases h
      · rw [toks_blank f acc hlt hb] at h
        have := ih _ _ _ h
        omega
    · rw [toks_end _ _ hlt] at h
      cases h
      simp
theorem toks_nz (s : ByteArray) (f : Nat) : ∀ (p : Nat) (acc : List Tk) (c : Int) (x y : Nat), toks s f p acc = .bad c x y → ¬ c = 0 := by
  induction f with
  | zero => intro p acc c x y h; cases h
  | succ f ih =>
    intro p acc c x y h
    by_cases hlt : p < s.size
    · cases hb : blB (bt s.data.toList p)
      · by_cases hr : 0 < rmk (s.data.toList.drop p)
        · rw [toks_rem f acc hlt hb hr] at h
          exact ih _ _ _ _ _ h
        · by_cases he : (fsP s p).2.2.2 = 0
          · rw [toks_ok f acc hlt hb (by omega) he] at h
            exact ih _ _ _ _ _ h
          · rw [toks_bad f acc hlt hb (by omega) he] at h
            cases h
            exact he
      · rw [toks_blank f acc hlt hb] at h
        exact ih _ _ _ _ _ h
    · rw [toks_end _ _ hlt] at h
      cases h
theorem tokR_nz {s : ByteArray} {c : Int} {x y : Nat} (h : tokR s = .bad c x y) : ¬ c = 0 := by
  unfold tokR at h
  split at h
  · cases h
    decide
  · cases hst : stray s s.size 0 with
    | some p =>
      rw [hst] at h
      cases h
      decide
    | none =>
      rw [hst] at h
      exact toks_nz s _ _ _ _ _ _ h
theorem tokR_len {s : ByteArray} {l : List Tk} (h : tokR s = .ok l) : l.length ≤ 65537 ∧ 0 < l.length := by
  unfold tokR at h
  split at h
  · cases h
  · rename_i hs
    cases hst : stray s s.size 0 with
    | some p =>
      rw [hst] at h
      cases h
    | none =>
      rw [hst] at h
      have := toks_len s _ _ _ _ h
      simp at this
      omega
end Go.Proofs.YtgdbfedagdlgkabDoor
