/- What is printed is cut into the same tokens again: the plain part. -/
import Derived.Test.YtgdbfedagdlgkaaDoorQ3
import Derived.Test.YtgdbfedagdlgkaaDoorL2
namespace Go.Proofs.YtgdbfedagdlgkaaDoor
open Go.RowKit Go.Shelf
/-- A text and nothing behind it, or a blank. -/
def Sp (m : List UInt8) : Prop := m = [] ∨ (0 < m.length ∧ bt m 0 = 32)
theorem Sp.zero {m : List UInt8} (h : Sp m) : bt m 0 = 32 ∨ bt m 0 = 0 := by
  rcases h with rfl | h
  · exact .inr rfl
  · exact .inl h.2
theorem nsz_sp {l m : List UInt8} (h : Sp m) : nsz (l ++ m) = nsz l := by
  have hle := nsz_le l
  refine nsz_eq (by simp; omega) (fun j hj => ?_) fun _ => ?_
  · rw [bt_left (by omega)]
    exact nsz_nm l hj
  · rcases Nat.lt_or_ge (nsz l) l.length with hlt | hge
    · rw [bt_left hlt]
      exact nsz_end l hlt
    · rw [bt_right hge, show nsz l - l.length = 0 by omega]
      rcases h.zero with e | e <;> rw [e] <;> rfl
theorem sg_blank (b : Nat) : sg b 32 = sg b 0 := by
  unfold sg
  simp
  by_cases h : b = 58 ∨ b = 38
  · rw [if_neg (c := 32 = b) (by omega), if_neg (c := 0 = b) (by omega)]
  · rw [if_neg h, if_neg h]
theorem sgz_sp {l m : List UInt8} (h : Sp m) (hl : 0 < l.length) : sgz (l ++ m) = sgz l := by
  unfold sgz
  have hne : ¬ l = [] := fun e => by rw [e] at hl; simp at hl
  rw [if_neg hne, if_neg (by simp [hne]), bt_left hl]
  rcases Nat.lt_or_ge 1 l.length with h1 | h1
  · rw [bt_left h1]
  · rw [bt_right h1, bt_none h1, show 1 - l.length = 0 by omega]
    rcases h.zero with e | e
    · rw [e]
      exact sg_blank _
    · rw [e]
theorem fst_sp {l m : List UInt8} (h : Sp m) (hl : 0 < l.length) (wd : Nat) : fst (l ++ m) wd = fst l wd := by
  have hle := nsz_le l
  unfold fst
  rw [nsz_sp h, sgz_sp h hl, bt_left hl, List.take_append_of_le_length hle]
/-- What is a token is one whatever is told of the letter behind. -/
theorem fst_wd {l : List UInt8} {wd : Nat} (h : (fst l wd).2.2.2 = 0) (wd' : Nat) : fst l wd' = fst l wd := by
  unfold fst at h ⊢
  split
  · rfl
  · rename_i h1
    rw [if_neg h1] at h
    split
    · rfl
    · rename_i h2
      rw [if_neg h2] at h
      simp at h
/-- A token's first byte is no blank, and it begins no remark. -/
theorem fst_go {l m : List UInt8} {wd : Nat} {k : Int} (hm : Sp m) (h : alB (fst l wd) l k = true) : 0 < l.length ∧ (fst l wd).2.2.2 = 0 ∧ (fst l wd).1 = k ∧ (fst l wd).2.1 = l.length ∧ blB (bt l 0) = false ∧ rmk (l ++ m) = 0 := by
  unfold alB at h
  rw [take_all] at h
  simp only [Bool.and_eq_true, decide_eq_true_eq] at h
  obtain ⟨h1, h2, h3⟩ := h
  obtain ⟨o1, o2, o3⟩ := fst_ok l wd h1
  refine ⟨by omega, h1, h2, by omega, ?_, ?_⟩
  · cases hb : blB (bt l 0)
    · rfl
    · exfalso
      have hv : bt l 0 = 32 ∨ bt l 0 = 9 ∨ bt l 0 = 10 ∨ bt l 0 = 13 := by
        unfold blB at hb
        simp at hb
        omega
      have hn : nsz l = 0 := nsz_eq (Nat.zero_le _) (fun j hj => absurd hj (by omega)) (fun _ => by rcases hv with e | e | e | e <;> rw [e] <;> rfl)
      have hs : sgz l = 0 := by
        unfold sgz
        split
        · rfl
        · unfold sg oneB
          simp only [beq_iff_eq, Bool.or_eq_true]
          generalize bt l 0 = b at *
          generalize bt l 1 = c at *
          (repeat' split) <;> omega
      unfold fst at h1
      rw [hn, hs] at h1
      simp at h1
  · rcases Nat.eq_zero_or_pos (rmk (l ++ m)) with e | hp
    · exact e
    · exfalso
      obtain ⟨r0, r1, r2, _⟩ := rmk_pos _ hp
      have hl0 : 0 < l.length := by omega
      rw [bt_left hl0] at r0
      rcases Nat.lt_or_ge 1 l.length with hl1 | hl1
      · have hn : nsz l = 0 := nsz_eq (Nat.zero_le _) (fun j hj => absurd hj (by omega)) (fun _ => by rw [r0]; rfl)
        have hs : sgz l = 1 := by
          unfold sgz
          rw [if_neg (fun e => by rw [e] at hl0; simp at hl0), r0]
          unfold sg oneB
          generalize bt l 1 = c at *
          simp
        have : (fst l wd).2.1 = 1 := by
          unfold fst
          rw [hn, hs]
          rfl
        omega
      · rw [bt_right hl1, show 1 - l.length = 0 by omega] at r1
        rcases hm.zero with e | e <;> omega
def kp (x : Tj) : Bool := !(decide (x.k = 5))
/-- All tokens but ends. -/
def nE (l : List Tj) : List Tj := l.filter kp
def tl (r : List Tj) : List UInt8 := r.flatMap fun y => 32 :: y.t.data.toList
def jn : List Tj → List UInt8
  | [] => []
  | x :: r => x.t.data.toList ++ tl r
theorem tl_sp (r : List Tj) : Sp (tl r) := by
  cases r with
  | nil => exact .inl rfl
  | cons x r => exact .inr ⟨by simp [tl], rfl⟩
theorem fold_ne (l : List Tj) : ∀ acc, acc ≠ [] → l.foldl stp acc = acc ++ tl (nE l) := by
  induction l with
  | nil => intro acc _; simp [nE, tl]
  | cons x r ih =>
    intro acc ha
    rw [List.foldl_cons]
    by_cases h5 : x.k = 5
    · have e : stp acc x = acc := by unfold stp; rw [if_pos h5]
      have e2 : nE (x :: r) = nE r := by unfold nE kp; simp [h5]
      rw [e, e2]
      exact ih acc ha
    · have e : stp acc x = acc ++ [32] ++ x.t.data.toList := by unfold stp; rw [if_neg h5, if_neg ha]
      have e2 : nE (x :: r) = x :: nE r := by unfold nE kp; simp [h5]
      rw [e, e2, ih _ (by simp)]
      simp [tl]
theorem prt_jn (l : List Tj) (h : ∀ x ∈ l, ¬ x.k = 5 → x.t.data.toList ≠ []) : prt l = jn (nE l) := by
  unfold prt
  induction l with
  | nil => rfl
  | cons x r ih =>
    rw [List.foldl_cons]
    by_cases h5 : x.k = 5
    · have e : stp [] x = [] := by unfold stp; rw [if_pos h5]
      have e2 : nE (x :: r) = nE r := by unfold nE kp; simp [h5]
      rw [e, e2]
      exact ih fun y hy => h y (List.mem_cons_of_mem _ hy)
    · have e : stp [] x = x.t.data.toList := by unfold stp; rw [if_neg h5, if_pos rfl]
      have e2 : nE (x :: r) = x :: nE r := by unfold nE kp; simp [h5]
      rw [e, e2, fold_ne r _ (h x List.mem_cons_self h5)]
      rfl
/-- The tokens of what is printed. -/
def mkT (p : Nat) : List Tj → List Tk
  | [] => []
  | x :: r => ⟨x.k, x.t, if x.k = 3 then x.v else 0, p, p + x.t.size⟩ :: mkT (p + x.t.size + 1) r
end Go.Proofs.YtgdbfedagdlgkaaDoor
