/- Names by the document; a word's token by the program. -/
import Derived.Test.YtgdbfedagdlgkabDoorA3
namespace Go.Proofs.YtgdbfedagdlgkabDoor
open Go.RowKit Go.Shelf
def spB (l : List UInt8) : Bool := !(l == []) && !(l == [95]) && ltB (bt l 0) && decide (nsz l = l.length)
theorem bcell {W w1 : World} (hb : Below W.heap.size W w1) : (∀ b o, b < W.heap.size → w1.cell? ⟨b, o, none⟩ = W.cell? ⟨b, o, none⟩) ∧ (∀ b o, b < W.heap.size → w1.frozen? ⟨b, o, none⟩ = W.frozen? ⟨b, o, none⟩) :=
  ⟨fun b o h => hb.cell (p := ⟨b, o, none⟩) h, fun b o h => hb.frozen (p := ⟨b, o, none⟩) h⟩
theorem nsz_short {l : List UInt8} {k : Nat} (hk : k < l.length) (h : nmB (bt l k) = false) : ¬ nsz l = l.length := fun e => by
  have := nsz_nm l (j := k) (by omega)
  rw [h] at this
  cases this
def nameB (l : List UInt8) : Bool := spB l && decide (l.length ≤ 64) && !wdB l
/-- A token. -/
def tkv (k : Int) (t : ByteArray) (n f to : Int) : Value := .agg #[.int .i64 k, .string t, .int .i64 n, .int .i64 f, .int .i64 to]
def wdK (l : List UInt8) : Int := if l = [95] then 4 else if wdB l then 2 else if 64 < l.length then 0 else 1
def wdE (l : List UInt8) : Int := if l = [95] then 0 else if wdB l then 0 else if 64 < l.length then 2 else 0
set_option maxHeartbeats 2000000 in
theorem word62 (s : ByteArray) (w : World) (hs : s.size ≤ maxLen) : Calls Tryd.prog 22 #[.string s] w fun e w' => e = .returned (.tuple #[tkv (wdK s.data.toList) s 0 0 0, .int .i64 (wdE s.data.toList)]) ∧ Below w.heap.size w w' := by
  unfold maxLen at hs
  have hl := ByteArray.toList_eq s
  have hL := len_of s
  have HW : Hid (∀ w, Calls Tryd.prog 7 #[.string s] w fun e w' => e = .returned (.bool (wdB s.data.toList)) ∧ w' = w) := fun w => word13 s w
  generalize s.data.toList = l at *
  have HL2 : Hid (l.length = s.size) := hL
  clear hL
  unfold tkv wdK wdE
  by_cases h1 : l = [95]
  · have HE : Hid (l = [95]) := h1
    have h1b : (l == [95]) = true := by simp [h1]
    rw [if_pos h1, if_pos h1]
    clear h1
    go_enter Tryd.func22, Tryd.ntmps22
    go_wp2
    exact bodyPost_ret (v := .tuple #[.agg #[.int .i64 4, .string s, .int .i64 0, .int .i64 0, .int .i64 0], .int .i64 0]) (by simp [results, Tryd.results22, go_sem]) rfl ⟨rfl, below_cells _ _ _⟩
  · have h1b : (l == [95]) = false := by simp [h1]
    rw [if_neg h1, if_neg h1]
    clear h1
    cases h2 : wdB l
    · simp only [Bool.false_eq_true, if_false]
      by_cases h3 : 64 < s.size
      · rw [if_pos (by rw [HL2.out]; exact h3), if_pos (by rw [HL2.out]; exact h3)]
        go_enter Tryd.func22, Tryd.ntmps22
        go_wp2_with (go_at_call 7; refine (HW.out _).mono ?_; rintro e w' ⟨rfl, rfl⟩)
        exact bodyPost_ret (v := .tuple #[.agg #[.int .i64 0, .string s, .int .i64 0, .int .i64 0, .int .i64 0], .int .i64 2]) (by simp [results, Tryd.results22, go_sem]) rfl ⟨rfl, below_cells _ _ _⟩
      · rw [if_neg (by rw [HL2.out]; exact h3), if_neg (by rw [HL2.out]; exact h3)]
        go_enter Tryd.func22, Tryd.ntmps22
        go_wp2_with (go_at_call 7; refine (HW.out _).mono ?_; rintro e w' ⟨rfl, rfl⟩)
        exact bodyPost_ret (v := .tuple #[.agg #[.int .i64 1, .string s, .int .i64 0, .int .i64 0, .int .i64 0], .int .i64 0]) (by simp [results, Tryd.results22, go_sem]) rfl ⟨rfl, below_cells _ _ _⟩
    · simp only [if_true]
      go_enter Tryd.func22, Tryd.ntmps22
      go_wp2_with (go_at_call 7; refine (HW.out _).mono ?_; rintro e w' ⟨rfl, rfl⟩)
      exact bodyPost_ret (v := .tuple #[.agg #[.int .i64 2, .string s, .int .i64 0, .int .i64 0, .int .i64 0], .int .i64 0]) (by simp [results, Tryd.results22, go_sem]) rfl ⟨rfl, below_cells _ _ _⟩
end Go.Proofs.YtgdbfedagdlgkabDoor
