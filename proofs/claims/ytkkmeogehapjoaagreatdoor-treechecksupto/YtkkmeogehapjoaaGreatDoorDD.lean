/- The document's own printer: a text in a box; a token put. The document's own printer: an operand, a row, braces. The document's own printer: a row of nodes, braces. The document's own printer: what serves for its kinds. -/
import Derived.Test.YtkkmeogehapjoaaGreatDoorNI
namespace Go.Proofs.YtkkmeogehapjoaaGreatDoor
section
open Go.RowKit Go.Shelf
/-- The document's printer at work. -/
structure RSt (w0 : World) (b : Nat) (nd : Value) (t : List UInt8) (W : World) : Prop where
  bk : W.heap[b]? = some (.cells #[nd, .string ⟨t.toArray⟩] 65 (0, 0))
  lo : w0.heap.size ≤ b
  bl : Below w0.heap.size w0 W
/-- What is not the printer stays. -/
def KpR (b : Nat) (W w' : World) : Prop := W.heap.size ≤ w'.heap.size ∧ ∀ i, i < W.heap.size → i ≠ b → w'.heap[i]? = W.heap[i]?
def PoR (w0 : World) (b : Nat) (nd : Value) (t : List UInt8) (W w' : World) : Prop := RSt w0 b nd t w' ∧ KpR b W w'
theorem KpR.refl (b : Nat) (W : World) : KpR b W W := ⟨Nat.le_refl _, fun _ _ _ => rfl⟩
theorem KpR.trans {b : Nat} {w w' w'' : World} (h : KpR b w w') (k : KpR b w' w'') : KpR b w w'' := ⟨Nat.le_trans h.1 k.1, fun i hi hb => by rw [k.2 i (Nat.lt_of_lt_of_le hi h.1) hb, h.2 i hi hb]⟩
theorem KpR.later {b : Nat} {w w' : World} (hb : Below w.heap.size w w') : KpR b w w' := ⟨hb.size, fun i hi _ => hb.block i hi⟩
theorem RSt.b_lt {w0 W : World} {b : Nat} {nd : Value} {t : List UInt8} (h : RSt w0 b nd t W) : b < W.heap.size := (Array.getElem?_eq_some_iff.1 h.bk).1
theorem RSt.later {w0 W W' : World} {b : Nat} {nd : Value} {t : List UInt8} (h : RSt w0 b nd t W) (hb : Below W.heap.size W W') : RSt w0 b nd t W' :=
  ⟨by rw [hb.block b h.b_lt]; exact h.bk, h.lo, h.bl.trans (hb.mono h.bl.size)⟩
theorem RSt.c0 {w0 W : World} {b : Nat} {nd : Value} {t : List UInt8} (h : RSt w0 b nd t W) : W.cell? ⟨b, 0, none⟩ = some nd := Lib.cell_of_heap h.bk 0
theorem RSt.c1 {w0 W : World} {b : Nat} {nd : Value} {t : List UInt8} (h : RSt w0 b nd t W) : W.cell? ⟨b, 1, none⟩ = some (.string ⟨t.toArray⟩) := Lib.cell_of_heap h.bk 1
theorem RSt.fz {w0 W : World} {b : Nat} {nd : Value} {t : List UInt8} (h : RSt w0 b nd t W) : W.frozen? ⟨b, 1, none⟩ = false := Lib.frozen_of_heap h.bk 1
theorem RSt.set {w0 W : World} {b : Nat} {nd : Value} {t : List UInt8} (h : RSt w0 b nd t W) (t' : List UInt8) : RSt w0 b nd t' (W.setCell ⟨b, 1, none⟩ (.string ⟨t'.toArray⟩)) := by
  refine ⟨?_, h.lo, h.bl.setCell (p := ⟨b, 1, none⟩) h.lo _⟩
  simp only [World.setCell, Array.getElem?_modify, if_true, h.bk, Option.map_some]
  rfl
theorem KpR.set (b : Nat) (W : World) (v : Value) : KpR b W (W.setCell ⟨b, 1, none⟩ v) := ⟨by simp, fun i _ hb => by
  simp only [World.setCell, Array.getElem?_modify]
  rw [if_neg (show ¬ b = i from fun e => hb e.symm)]⟩
theorem str_app (t : List UInt8) (s : ByteArray) : (⟨t.toArray⟩ : ByteArray) ++ s = ⟨(t ++ s.data.toList).toArray⟩ := by
  apply ByteArray.ext
  simp
/-- A node's box beside the printer. -/
structure BsR (w0 : World) (b : Nat) (nd : Value) (t : List UInt8) (W : World) (cs : Array Value) (w : World) : Prop where
  st : RSt w0 b nd t w
  ke : KpR b W w
  ne : W.heap.size ≠ b
  bx : w.heap[W.heap.size]? = some (.cells cs 53 (0, 0))
theorem BsR.start {w0 W : World} {b : Nat} {nd : Value} {t : List UInt8} (h : RSt w0 b nd t W) (cs : Array Value) : BsR w0 b nd t W cs (W.alloc (.cells cs 53)) :=
  ⟨h.later (below_cells _ _ _), .later (below_cells _ _ _), by have := h.b_lt; omega, Go.heap_alloc_new W _⟩
theorem BsR.put {w0 W w w' : World} {b : Nat} {nd : Value} {t T : List UInt8} {cs : Array Value} (h : BsR w0 b nd t W cs w) (hE : PoR w0 b nd T w w') : BsR w0 b nd T W cs w' :=
  ⟨hE.1, h.ke.trans hE.2, h.ne, by rw [hE.2.2 _ (Array.getElem?_eq_some_iff.1 h.bx).1 h.ne]; exact h.bx⟩
theorem BsR.later {w0 W w w' : World} {b : Nat} {nd : Value} {t : List UInt8} {cs : Array Value} (h : BsR w0 b nd t W cs w) (hb : Below w.heap.size w w') : BsR w0 b nd t W cs w' :=
  ⟨h.st.later hb, h.ke.trans (.later hb), h.ne, by rw [hb.block _ (Array.getElem?_eq_some_iff.1 h.bx).1]; exact h.bx⟩
theorem BsR.pos {w0 W w : World} {b : Nat} {nd : Value} {t : List UInt8} {cs : Array Value} (h : BsR w0 b nd t W cs w) : PoR w0 b nd t W w := ⟨h.st, h.ke⟩
theorem PoR.of_alloc {w0 W W' : World} {b : Nat} {nd : Value} {t : List UInt8} {cs : Array Value} (h : PoR w0 b nd t (W.alloc (.cells cs 53)) W') : PoR w0 b nd t W W' := ⟨h.1, (KpR.later (below_cells _ _ _)).trans h.2⟩
theorem PoR.trans {w0 W W' W'' : World} {b : Nat} {nd : Value} {t t' : List UInt8} (h : PoR w0 b nd t W W') (k : PoR w0 b nd t' W' W'') : PoR w0 b nd t' W W'' := ⟨k.1, h.2.trans k.2⟩
set_option maxRecDepth 100000 in
set_option maxHeartbeats 4000000 in
theorem rput53 (w0 : World) (b : Nat) (nd : Value) (t : List UInt8) (s : ByteArray) (W : World) (hs : s.data.toList ≠ []) (hS : RSt w0 b nd t W) (hlen : (run t [s.data.toList]).length ≤ 140737488355328) : Calls Tryz.prog 53 #[.pointer (some ⟨b, 0, none⟩), .string s] W fun e w' => e = .returned (.tuple #[]) ∧ PoR w0 b nd (run t [s.data.toList]) W w' := by
  have e0 : run t [s.data.toList] = tokS t s.data.toList := rfl
  rw [e0] at hlen ⊢
  unfold tokS at hlen ⊢
  rw [if_neg hs] at hlen ⊢
  have c1 := hS.c1
  have f1 := hS.fz
  have hsz : s.size = s.data.toList.length := Lib.size_eq s
  cases t with
  | nil =>
    rw [if_pos rfl] at hlen ⊢
    have HE : Hid (PoR w0 b nd s.data.toList W (W.setCell ⟨b, 1, none⟩ (.string (⟨#[]⟩ ++ s)))) := by
      have e : (⟨#[]⟩ : ByteArray) ++ s = ⟨(s.data.toList).toArray⟩ := str_app [] s
      rw [e]
      exact ⟨hS.set _, KpR.set _ _ _⟩
    have hb : ¬ 9223372036854775807 < s.size := by omega
    have hb0 : ¬ 9223372036854775807 < 0 + s.size := by omega
    clear hlen hs hS e0 hsz
    replace c1 : W.cell? ⟨b, 1, none⟩ = some (.string ⟨#[]⟩) := c1
    go_enter Tryz.func53, Tryz.ntmps53
    go_wp2
    go_end0
    refine ⟨rfl, ?_⟩
    exact HE.out
  | cons x r =>
    rw [if_neg (by simp)] at hlen ⊢
    have HE : Hid (PoR w0 b nd ((x :: r) ++ 32 :: s.data.toList) W ((W.setCell ⟨b, 1, none⟩ (.string (⟨(x :: r).toArray⟩ ++ ⟨#[32]⟩))).setCell ⟨b, 1, none⟩ (.string (⟨(x :: r).toArray⟩ ++ ⟨#[32]⟩ ++ s)))) := by
      have e1 : (⟨(x :: r).toArray⟩ : ByteArray) ++ ⟨#[32]⟩ = ⟨((x :: r) ++ [32]).toArray⟩ := str_app (x :: r) ⟨#[32]⟩
      have e2 : (⟨((x :: r) ++ [32]).toArray⟩ : ByteArray) ++ s = ⟨((x :: r) ++ [32] ++ s.data.toList).toArray⟩ := str_app _ s
      rw [e1, e2, show (x :: r) ++ [32] ++ s.data.toList = (x :: r) ++ 32 :: s.data.toList by simp]
      exact ⟨(hS.set _).set _, (KpR.set _ _ _).trans (KpR.set _ _ _)⟩
    simp only [List.length_append, List.length_cons] at hlen
    obtain ⟨A, hA⟩ : ∃ A, A = (⟨(x :: r).toArray⟩ : ByteArray) := ⟨_, rfl⟩
    have hAs : A.size = r.length + 1 := by rw [hA]; exact Lib.size_eq _
    have hAe : ¬ A.toList.isEmpty = true := by rw [hA, ByteArray.toList_eq]; simp
    have hAe2 : A.toList.isEmpty = false := by simpa using hAe
    rw [← hA] at HE c1
    have hb1 : ¬ 9223372036854775807 < A.size + 1 := by omega
    have hb1' : ¬ 9223372036854775807 ≤ A.size := by omega
    have hb2 : ¬ 9223372036854775807 < A.size + 1 + s.size := by omega
    have c2 : (W.setCell ⟨b, 1, none⟩ (.string (A ++ ⟨#[32]⟩))).cell? ⟨b, 1, none⟩ = some (.string (A ++ ⟨#[32]⟩)) := World.cell?_setCell_same _ _ _ c1
    clear hlen hs hS e0 hsz hA hAs hAe
    go_enter Tryz.func53, Tryz.ntmps53
    go_wp2
    go_end0
    refine ⟨rfl, ?_⟩
    exact HE.out
end
section
open Go.RowKit Go.Shelf
/-- What is asked of a node's own printing. -/
def NodeR (w0 : World) (b : Nat) (nd : Value) (nt : Nat → Tks) (k : Nat) : Prop := ∀ t W, RSt w0 b nd t W → (run t (nt k)).length ≤ 140737488355328 → Calls Tryz.prog 29 #[.pointer (some ⟨b, 0, none⟩), .int .i64 (k : Nat)] W fun e w' => e = .returned (.tuple #[]) ∧ PoR w0 b nd (run t (nt k)) W w'
theorem has_lt {g : Nat} {f : Int → Bool} (h : ∀ n : Nat, n < 64 → hasB g (n : Int) = f n) (h2 : ∀ k : Int, k < 0 ∨ 64 ≤ k → f k = false) (k : Int) : hasB g k = f k := by
  by_cases hk : 0 ≤ k ∧ k < 64
  · obtain ⟨n, rfl⟩ : ∃ n : Nat, k = n := ⟨k.toNat, by omega⟩
    exact h n (by omega)
  · rw [h2 k (by omega)]
    unfold hasB
    by_cases h0 : 0 ≤ k
    · simp [h0, show ¬ k < 64 by omega]
    · simp [h0]
theorem plain_a (k : Int) : hasB 17762910994432 k = (decide (k = 30) || decide (k = 31) || decide (k = 32) || decide (k = 33) || decide (k = 34) || decide (k = 37) || decide (k = 44)) := by
  refine has_lt (f := fun k => decide (k = 30) || decide (k = 31) || decide (k = 32) || decide (k = 33) || decide (k = 34) || decide (k = 37) || decide (k = 44)) (by decide) (fun k hk => ?_) k
  simp only [Bool.or_eq_false_iff, decide_eq_false_iff_not]
  omega
set_option maxRecDepth 100000 in
set_option maxHeartbeats 4000000 in
theorem roper_a (w0 : World) (b : Nat) (ao : Option Addr) (c : Nat) (l : List Nd) (nt : Nat → Tks) (k : Nat) (hl : NdA w0 ao c l) (hk : k < l.length) (hN : NodeR w0 b (.slice ao l.length c) nt k) (t : List UInt8) (W : World) (hS : RSt w0 b (.slice ao l.length c) t W) (hlen : (run t (brT nt l 17762910994432 k)).length ≤ 140737488355328) : Calls Tryz.prog 56 #[.pointer (some ⟨b, 0, none⟩), .int .i64 (k : Nat), .bool false] W fun e w' => e = .returned (.tuple #[]) ∧ PoR w0 b (.slice ao l.length c) (run t (brT nt l 17762910994432 k)) W w' := by
  obtain ⟨x, hx⟩ : ∃ x, l[k]? = some x := ⟨_, List.getElem?_eq_getElem hk⟩
  have hlW := hl.below hS.bl
  obtain ⟨gn, on, rfl, hnd⟩ := hlW.2.2.2 (by omega)
  obtain ⟨a0, _⟩ := nd_cells hnd hx
  have hkd : kdK l (k : Int) = x.k := by unfold kdK; rw [Int.toNat_natCast, hx]
  have h1 := hlW.1
  have h2 := hlW.2.1
  have c53 := cells53
  have hkI : (k : Int) < (l.length : Int) := by omega
  have hc0 := hS.c0
  unfold brT at hlen ⊢
  rw [hkd] at hlen ⊢
  cases hq : hasB 17762910994432 x.k with
  | true =>
    rw [hq] at hlen
    rw [if_pos rfl] at hlen ⊢
    have H29 : Hid (Calls Tryz.prog 29 #[.pointer (some ⟨b, 0, none⟩), .int .i64 (k : Nat)] W fun e w' => e = .returned (.tuple #[]) ∧ PoR w0 b (.slice (some ⟨gn, on, none⟩) l.length c) (run t (nt k)) W w') := hN t W hS hlen
    rw [plain_a] at hq
    simp only [Bool.or_eq_true, decide_eq_true_eq] at hq
    clear hN hl hlW hnd hkd hlen hx hS
    generalize run t (nt k) = T at *
    generalize l.length = n at *
    rcases hq with ((((((hq | hq) | hq) | hq) | hq) | hq) | hq)
    all_goals
      rw [hq] at a0
      clear hq
      go_enter Tryz.func56, Tryz.ntmps56
      go_wp2_with fail
      refine H29.out.mono ?_
      rintro e w' ⟨rfl, hE⟩
      have HE : Hid (PoR w0 b (.slice (some ⟨gn, on, none⟩) n c) T W w') := hE
      clear hE
      go_wp2
      go_end0
      exact ⟨rfl, HE.out⟩
  | false =>
    rw [hq] at hlen
    rw [if_neg (by simp)] at hlen ⊢
    have e0 : run t ([40] :: (nt k ++ [[41]])) = run (run (run t [[40]]) (nt k)) [[41]] := by
      rw [← run_app, ← run_app]
      simp
    rw [e0] at hlen ⊢
    obtain ⟨T1, hT1⟩ : ∃ T, run t [[40]] = T := ⟨_, rfl⟩
    rw [hT1] at hlen ⊢
    obtain ⟨T2, hT2⟩ : ∃ T, run T1 (nt k) = T := ⟨_, rfl⟩
    rw [hT2] at hlen ⊢
    have l2 : T2.length ≤ 140737488355328 := Nat.le_trans (run_le _ _) hlen
    have l1 : T1.length ≤ 140737488355328 := Nat.le_trans (run_le _ _) (by rw [hT2]; exact l2)
    have H1 : Hid (∀ W, RSt w0 b (.slice (some ⟨gn, on, none⟩) l.length c) t W → Calls Tryz.prog 53 #[.pointer (some ⟨b, 0, none⟩), .string ⟨#[40]⟩] W fun e w' => e = .returned (.tuple #[]) ∧ PoR w0 b (.slice (some ⟨gn, on, none⟩) l.length c) T1 W w') := fun W hW => by
      have q := rput53 w0 b _ t ⟨#[40]⟩ W (by simp) hW (by rw [show run t [(⟨#[40]⟩ : ByteArray).data.toList] = T1 from hT1]; exact l1)
      rw [show run t [(⟨#[40]⟩ : ByteArray).data.toList] = T1 from hT1] at q
      exact q
    have H2 : Hid (∀ W, RSt w0 b (.slice (some ⟨gn, on, none⟩) l.length c) T1 W → Calls Tryz.prog 29 #[.pointer (some ⟨b, 0, none⟩), .int .i64 (k : Nat)] W fun e w' => e = .returned (.tuple #[]) ∧ PoR w0 b (.slice (some ⟨gn, on, none⟩) l.length c) T2 W w') := fun W hW => by
      have q := hN T1 W hW (by rw [hT2]; exact l2)
      rw [hT2] at q
      exact q
    have H3 : Hid (∀ W, RSt w0 b (.slice (some ⟨gn, on, none⟩) l.length c) T2 W → Calls Tryz.prog 53 #[.pointer (some ⟨b, 0, none⟩), .string ⟨#[41]⟩] W fun e w' => e = .returned (.tuple #[]) ∧ PoR w0 b (.slice (some ⟨gn, on, none⟩) l.length c) (run T2 [[41]]) W w') := fun W hW => rput53 w0 b _ T2 ⟨#[41]⟩ W (by simp) hW hlen
    rw [plain_a] at hq
    simp only [Bool.or_eq_false_iff, decide_eq_false_iff_not] at hq
    have HS : Hid (RSt w0 b (.slice (some ⟨gn, on, none⟩) l.length c) t W) := hS
    clear hN hl hlW hnd hkd hlen hx hS e0 hT1 hT2 l1 l2
    generalize run T2 [[41]] = T3 at *
    generalize l.length = n at *
    generalize x.k = K at *
    obtain ⟨⟨⟨⟨⟨⟨h30, h31⟩, h32⟩, h33⟩, h34⟩, h37⟩, h44⟩ := hq
    replace h30 : (K == 30) = false := by simpa using h30
    replace h31 : (K == 31) = false := by simpa using h31
    replace h32 : (K == 32) = false := by simpa using h32
    replace h33 : (K == 33) = false := by simpa using h33
    replace h34 : (K == 34) = false := by simpa using h34
    replace h37 : (K == 37) = false := by simpa using h37
    replace h44 : (K == 44) = false := by simpa using h44
    go_enter Tryz.func56, Tryz.ntmps56
    go_wp2_with fail
    refine (H1.out _ HS.out).mono ?_
    rintro e w1 ⟨rfl, hE⟩
    have HE1 : Hid (PoR w0 b (.slice (some ⟨gn, on, none⟩) n c) T1 W w1) := hE
    clear hE a0 hc0
    go_wp2_with fail
    refine (H2.out _ HE1.out.1).mono ?_
    rintro e w2 ⟨rfl, hE⟩
    have HE2 : Hid (PoR w0 b (.slice (some ⟨gn, on, none⟩) n c) T2 W w2) := HE1.out.trans hE
    clear hE
    go_wp2_with fail
    refine (H3.out _ HE2.out.1).mono ?_
    rintro e w3 ⟨rfl, hE⟩
    have HE : Hid (PoR w0 b (.slice (some ⟨gn, on, none⟩) n c) T3 W w3) := HE2.out.trans hE
    clear hE
    go_wp2
    go_end0
    exact ⟨rfl, HE.out⟩
theorem plain_b (k : Int) : hasB 19961934249984 k = (decide (k = 30) || decide (k = 31) || decide (k = 32) || decide (k = 33) || decide (k = 34) || decide (k = 37) || decide (k = 44) || decide (k = 41)) := by
  refine has_lt (f := fun k => decide (k = 30) || decide (k = 31) || decide (k = 32) || decide (k = 33) || decide (k = 34) || decide (k = 37) || decide (k = 44) || decide (k = 41)) (by decide) (fun k hk => ?_) k
  simp only [Bool.or_eq_false_iff, decide_eq_false_iff_not]
  omega
set_option maxRecDepth 100000 in
set_option maxHeartbeats 4000000 in
theorem roper_b (w0 : World) (b : Nat) (ao : Option Addr) (c : Nat) (l : List Nd) (nt : Nat → Tks) (k : Nat) (hl : NdA w0 ao c l) (hk : k < l.length) (hN : NodeR w0 b (.slice ao l.length c) nt k) (t : List UInt8) (W : World) (hS : RSt w0 b (.slice ao l.length c) t W) (hlen : (run t (brT nt l 19961934249984 k)).length ≤ 140737488355328) : Calls Tryz.prog 56 #[.pointer (some ⟨b, 0, none⟩), .int .i64 (k : Nat), .bool true] W fun e w' => e = .returned (.tuple #[]) ∧ PoR w0 b (.slice ao l.length c) (run t (brT nt l 19961934249984 k)) W w' := by
  obtain ⟨x, hx⟩ : ∃ x, l[k]? = some x := ⟨_, List.getElem?_eq_getElem hk⟩
  have hlW := hl.below hS.bl
  obtain ⟨gn, on, rfl, hnd⟩ := hlW.2.2.2 (by omega)
  obtain ⟨a0, _⟩ := nd_cells hnd hx
  have hkd : kdK l (k : Int) = x.k := by unfold kdK; rw [Int.toNat_natCast, hx]
  have h1 := hlW.1
  have h2 := hlW.2.1
  have c53 := cells53
  have hkI : (k : Int) < (l.length : Int) := by omega
  have hc0 := hS.c0
  unfold brT at hlen ⊢
  rw [hkd] at hlen ⊢
  cases hq : hasB 19961934249984 x.k with
  | true =>
    rw [hq] at hlen
    rw [if_pos rfl] at hlen ⊢
    have H29 : Hid (Calls Tryz.prog 29 #[.pointer (some ⟨b, 0, none⟩), .int .i64 (k : Nat)] W fun e w' => e = .returned (.tuple #[]) ∧ PoR w0 b (.slice (some ⟨gn, on, none⟩) l.length c) (run t (nt k)) W w') := hN t W hS hlen
    rw [plain_b] at hq
    simp only [Bool.or_eq_true, decide_eq_true_eq] at hq
    clear hN hl hlW hnd hkd hlen hx hS
    generalize run t (nt k) = T at *
    generalize l.length = n at *
    rcases hq with (((((((hq | hq) | hq) | hq) | hq) | hq) | hq) | hq)
    all_goals
      rw [hq] at a0
      clear hq
      go_enter Tryz.func56, Tryz.ntmps56
      go_wp2_with fail
      refine H29.out.mono ?_
      rintro e w' ⟨rfl, hE⟩
      have HE : Hid (PoR w0 b (.slice (some ⟨gn, on, none⟩) n c) T W w') := hE
      clear hE
      go_wp2
      go_end0
      exact ⟨rfl, HE.out⟩
  | false =>
    rw [hq] at hlen
    rw [if_neg (by simp)] at hlen ⊢
    have e0 : run t ([40] :: (nt k ++ [[41]])) = run (run (run t [[40]]) (nt k)) [[41]] := by
      rw [← run_app, ← run_app]
      simp
    rw [e0] at hlen ⊢
    obtain ⟨T1, hT1⟩ : ∃ T, run t [[40]] = T := ⟨_, rfl⟩
    rw [hT1] at hlen ⊢
    obtain ⟨T2, hT2⟩ : ∃ T, run T1 (nt k) = T := ⟨_, rfl⟩
    rw [hT2] at hlen ⊢
    have l2 : T2.length ≤ 140737488355328 := Nat.le_trans (run_le _ _) hlen
    have l1 : T1.length ≤ 140737488355328 := Nat.le_trans (run_le _ _) (by rw [hT2]; exact l2)
    have H1 : Hid (∀ W, RSt w0 b (.slice (some ⟨gn, on, none⟩) l.length c) t W → Calls Tryz.prog 53 #[.pointer (some ⟨b, 0, none⟩), .string ⟨#[40]⟩] W fun e w' => e = .returned (.tuple #[]) ∧ PoR w0 b (.slice (some ⟨gn, on, none⟩) l.length c) T1 W w') := fun W hW => by
      have q := rput53 w0 b _ t ⟨#[40]⟩ W (by simp) hW (by rw [show run t [(⟨#[40]⟩ : ByteArray).data.toList] = T1 from hT1]; exact l1)
      rw [show run t [(⟨#[40]⟩ : ByteArray).data.toList] = T1 from hT1] at q
      exact q
    have H2 : Hid (∀ W, RSt w0 b (.slice (some ⟨gn, on, none⟩) l.length c) T1 W → Calls Tryz.prog 29 #[.pointer (some ⟨b, 0, none⟩), .int .i64 (k : Nat)] W fun e w' => e = .returned (.tuple #[]) ∧ PoR w0 b (.slice (some ⟨gn, on, none⟩) l.length c) T2 W w') := fun W hW => by
      have q := hN T1 W hW (by rw [hT2]; exact l2)
      rw [hT2] at q
      exact q
    have H3 : Hid (∀ W, RSt w0 b (.slice (some ⟨gn, on, none⟩) l.length c) T2 W → Calls Tryz.prog 53 #[.pointer (some ⟨b, 0, none⟩), .string ⟨#[41]⟩] W fun e w' => e = .returned (.tuple #[]) ∧ PoR w0 b (.slice (some ⟨gn, on, none⟩) l.length c) (run T2 [[41]]) W w') := fun W hW => rput53 w0 b _ T2 ⟨#[41]⟩ W (by simp) hW hlen
    rw [plain_b] at hq
    simp only [Bool.or_eq_false_iff, decide_eq_false_iff_not] at hq
    have HS : Hid (RSt w0 b (.slice (some ⟨gn, on, none⟩) l.length c) t W) := hS
    clear hN hl hlW hnd hkd hlen hx hS e0 hT1 hT2 l1 l2
    generalize run T2 [[41]] = T3 at *
    generalize l.length = n at *
    generalize x.k = K at *
    obtain ⟨⟨⟨⟨⟨⟨⟨h30, h31⟩, h32⟩, h33⟩, h34⟩, h37⟩, h44⟩, h41⟩ := hq
    replace h30 : (K == 30) = false := by simpa using h30
    replace h31 : (K == 31) = false := by simpa using h31
    replace h32 : (K == 32) = false := by simpa using h32
    replace h33 : (K == 33) = false := by simpa using h33
    replace h34 : (K == 34) = false := by simpa using h34
    replace h37 : (K == 37) = false := by simpa using h37
    replace h44 : (K == 44) = false := by simpa using h44
    replace h41 : (K == 41) = false := by simpa using h41
    go_enter Tryz.func56, Tryz.ntmps56
    go_wp2_with fail
    refine (H1.out _ HS.out).mono ?_
    rintro e w1 ⟨rfl, hE⟩
    have HE1 : Hid (PoR w0 b (.slice (some ⟨gn, on, none⟩) n c) T1 W w1) := hE
    clear hE a0 hc0
    go_wp2_with fail
    refine (H2.out _ HE1.out.1).mono ?_
    rintro e w2 ⟨rfl, hE⟩
    have HE2 : Hid (PoR w0 b (.slice (some ⟨gn, on, none⟩) n c) T2 W w2) := HE1.out.trans hE
    clear hE
    go_wp2_with fail
    refine (H3.out _ HE2.out.1).mono ?_
    rintro e w3 ⟨rfl, hE⟩
    have HE : Hid (PoR w0 b (.slice (some ⟨gn, on, none⟩) n c) T3 W w3) := HE2.out.trans hE
    clear hE
    go_wp2
    go_end0
    exact ⟨rfl, HE.out⟩
end
section
open Go.RowKit Go.Shelf
theorem drop_at {ks : List Int} {j : Nat} {y : Int} (h : ks[j]? = some y) : ks.drop j = y :: ks.drop (j + 1) := by
  obtain ⟨hj, rfl⟩ := List.getElem?_eq_some_iff.1 h
  exact List.drop_eq_getElem_cons hj
set_option maxRecDepth 100000 in
set_option maxHeartbeats 4000000 in
theorem rrow79 (w0 : World) (b : Nat) (nd : Value) (nt : Nat → Tks) (ks : List Int) (ao : Option Addr) (c : Nat) (hI : IsA w0 ao c ks) (hN : ∀ y ∈ ks, 0 ≤ y ∧ NodeR w0 b nd nt y.toNat) (t : List UInt8) (W : World) (hS : RSt w0 b nd t W) (hlen : (run t (comT nt 0 ks)).length ≤ 140737488355328) : Calls Tryz.prog 79 #[.pointer (some ⟨b, 0, none⟩), .slice ao ks.length c] W fun e w' => e = .returned (.tuple #[]) ∧ PoR w0 b nd (run t (comT nt 0 ks)) W w' := by
  have h1 := hI.1
  have h2 := hI.2.1
  have HI : Hid (IsA w0 ao c ks) := hI
  have HN : Hid (∀ y ∈ ks, 0 ≤ y ∧ NodeR w0 b nd nt y.toNat) := hN
  obtain ⟨m, hm⟩ : ∃ m, m = ks.length := ⟨_, rfl⟩
  have HM : Hid (m = ks.length) := hm
  rw [← hm] at h1 ⊢
  obtain ⟨T, hT⟩ : ∃ T, run t (comT nt 0 ks) = T := ⟨_, rfl⟩
  rw [hT] at hlen ⊢
  have HT : Hid (T.length ≤ 140737488355328) := hlen
  have HS : Hid (RSt w0 b nd t W ∧ run t (comT nt 0 (ks.drop 0)) = T) := ⟨hS, hT⟩
  have c3 := cells3'
  clear hI hN hm hT hlen hS
  go_enter Tryz.func79, Tryz.ntmps79
  go_wp2
  go_loopw [8] (fun i wx => ∃ (j : Nat) (t' : List UInt8), j ≤ m ∧ i = .int .i64 j ∧ RSt w0 b nd t' wx ∧ KpR b W wx ∧ run t' (comT nt j (ks.drop j)) = T) (fun i _ => m - (intOf i).toNat)
  case atStart => exact ⟨0, t, Nat.zero_le _, rfl, HS.out.1, KpR.refl _ _, HS.out.2⟩
  case round =>
    obtain ⟨j, t', hj, rfl, hSt, hKe, hR⟩ := hrel
    clear HS
    by_cases hlt : j < m
    · obtain ⟨y, hy⟩ : ∃ y, ks[j]? = some y := ⟨_, List.getElem?_eq_getElem (by have := HM.out; omega)⟩
      obtain ⟨hy0, hyN⟩ := HN.out y (List.mem_of_getElem? hy)
      obtain ⟨q, rfl⟩ : ∃ q : Nat, y = q := ⟨y.toNat, by omega⟩
      rw [Int.toNat_natCast] at hyN
      obtain ⟨gk, ok, rfl, hce⟩ := (HI.out.below hSt.bl).2.2 (by have := HM.out; omega)
      have a0 := hce j _ hy
      rw [drop_at hy] at hR
      simp only [comT, Int.toNat_natCast] at hR
      rw [run_app, run_app] at hR
      have hjI : (j : Int) < (m : Int) := by omega
      clear hce hy hy0
      by_cases h0 : j = 0
      · subst h0
        rw [Nat.add_zero] at a0
        rw [if_neg (by omega)] at hR
        obtain ⟨T1, hT1⟩ : ∃ T1, run t' (nt q) = T1 := ⟨_, rfl⟩
        have hR' : run T1 (comT nt 1 (ks.drop 1)) = T := by rw [← hT1]; exact hR
        have l1 : T1.length ≤ 140737488355328 := Nat.le_trans (run_le _ _) (by rw [hR']; exact HT.out)
        have H1 : Hid (Calls Tryz.prog 29 #[.pointer (some ⟨b, 0, none⟩), .int .i64 (q : Nat)] wr fun e w' => e = .returned (.tuple #[]) ∧ PoR w0 b nd T1 wr w') := by
          have z := hyN t' wr hSt (by rw [hT1]; exact l1)
          rw [hT1] at z
          exact z
        have HR : Hid (run T1 (comT nt 1 (ks.drop 1)) = T ∧ KpR b W wr) := ⟨hR', hKe⟩
        clear hR hR' hT1 l1 hyN hSt hKe
        go_wp2_with fail
        refine H1.out.mono ?_
        rintro e w1 ⟨rfl, hE⟩
        have HE : Hid (PoR w0 b nd T1 wr w1) := hE
        clear hE a0
        go_wp2
        exact ⟨⟨1, T1, by omega, by go_num, HE.out.1, HR.out.2.trans HE.out.2, HR.out.1⟩, by simp [intOf]; omega⟩
      · rw [if_pos (by omega)] at hR
        obtain ⟨T1, hT1⟩ : ∃ T1, run t' [[44]] = T1 := ⟨_, rfl⟩
        rw [hT1] at hR
        obtain ⟨T2, hT2⟩ : ∃ T2, run T1 (nt q) = T2 := ⟨_, rfl⟩
        rw [hT2] at hR
        have l2 : T2.length ≤ 140737488355328 := Nat.le_trans (run_le _ _) (by rw [hR]; exact HT.out)
        have l1 : T1.length ≤ 140737488355328 := Nat.le_trans (run_le _ _) (by rw [hT2]; exact l2)
        have H1 : Hid (Calls Tryz.prog 53 #[.pointer (some ⟨b, 0, none⟩), .string ⟨#[44]⟩] wr fun e w' => e = .returned (.tuple #[]) ∧ PoR w0 b nd T1 wr w') := by
          have z := rput53 w0 b nd t' ⟨#[44]⟩ wr (by simp) hSt (by rw [show run t' [(⟨#[44]⟩ : ByteArray).data.toList] = T1 from hT1]; exact l1)
          rw [show run t' [(⟨#[44]⟩ : ByteArray).data.toList] = T1 from hT1] at z
          exact z
        have H2 : Hid (∀ W, RSt w0 b nd T1 W → Calls Tryz.prog 29 #[.pointer (some ⟨b, 0, none⟩), .int .i64 (q : Nat)] W fun e w' => e = .returned (.tuple #[]) ∧ PoR w0 b nd T2 W w') := fun W hW => by
          have z := hyN T1 W hW (by rw [hT2]; exact l2)
          rw [hT2] at z
          exact z
        have HR : Hid (run T2 (comT nt (j + 1) (ks.drop (j + 1))) = T ∧ KpR b W wr) := ⟨hR, hKe⟩
        have hj0 : (0 : Int) < (j : Int) := by omega
        clear hR hT1 hT2 l1 l2 hyN hSt hKe
        go_wp2_with fail
        refine H1.out.mono ?_
        rintro e w1 ⟨rfl, hE⟩
        have HE1 : Hid (PoR w0 b nd T1 wr w1) := hE
        clear hE a0
        go_wp2_with fail
        refine (H2.out _ HE1.out.1).mono ?_
        rintro e w2 ⟨rfl, hE⟩
        have HE : Hid (PoR w0 b nd T2 wr w2) := HE1.out.trans hE
        clear hE
        go_wp2
        exact ⟨⟨j + 1, T2, by omega, by go_num, HE.out.1, HR.out.2.trans HE.out.2, HR.out.1⟩, by simp [intOf]; omega⟩
    · obtain rfl : j = m := by omega
      have hd : ks.drop j = [] := List.drop_eq_nil_of_le (by have := HM.out; omega)
      rw [hd] at hR
      have hR' : t' = T := hR
      subst hR'
      have HE : Hid (PoR w0 b nd t' W wr) := ⟨hSt, hKe⟩
      clear hR hSt hKe hd HT
      go_wp2
      go_end0
      exact ⟨rfl, HE.out⟩
/-- A token put, with its text named. -/
theorem rput_h {w0 : World} {b : Nat} {nd : Value} {t T : List UInt8} {s : ByteArray} (hs : s.data.toList ≠ []) (hT : run t [s.data.toList] = T) (hl : T.length ≤ 140737488355328) : Hid (∀ W, RSt w0 b nd t W → Calls Tryz.prog 53 #[.pointer (some ⟨b, 0, none⟩), .string s] W fun e w' => e = .returned (.tuple #[]) ∧ PoR w0 b nd T W w') := fun W hW => by
  have z := rput53 w0 b nd t s W hs hW (by rw [hT]; exact hl)
  rw [hT] at z
  exact z
theorem rnode_h {w0 : World} {b : Nat} {nd : Value} {nt : Nat → Tks} {k : Nat} {t T : List UInt8} (hN : NodeR w0 b nd nt k) (hT : run t (nt k) = T) (hl : T.length ≤ 140737488355328) : Hid (∀ W, RSt w0 b nd t W → Calls Tryz.prog 29 #[.pointer (some ⟨b, 0, none⟩), .int .i64 (k : Nat)] W fun e w' => e = .returned (.tuple #[]) ∧ PoR w0 b nd T W w') := fun W hW => by
  have z := hN t W hW (by rw [hT]; exact hl)
  rw [hT] at z
  exact z
theorem rrow_h {w0 : World} {b : Nat} {nd : Value} {nt : Nat → Tks} {ks : List Int} {ao : Option Addr} {c : Nat} {t T : List UInt8} (hI : IsA w0 ao c ks) (hN : ∀ y ∈ ks, 0 ≤ y ∧ NodeR w0 b nd nt y.toNat) (hT : run t (comT nt 0 ks) = T) (hl : T.length ≤ 140737488355328) : Hid (∀ W, RSt w0 b nd t W → Calls Tryz.prog 79 #[.pointer (some ⟨b, 0, none⟩), .slice ao ks.length c] W fun e w' => e = .returned (.tuple #[]) ∧ PoR w0 b nd T W w') := fun W hW => by
  have z := rrow79 w0 b nd nt ks ao c hI hN t W hW (by rw [hT]; exact hl)
  rw [hT] at z
  exact z
theorem roper_ah {w0 : World} {b : Nat} {ao : Option Addr} {c : Nat} {l : List Nd} {nt : Nat → Tks} {k : Nat} {t T : List UInt8} (hl : NdA w0 ao c l) (hk : k < l.length) (hN : NodeR w0 b (.slice ao l.length c) nt k) (hT : run t (brT nt l 17762910994432 k) = T) (hle : T.length ≤ 140737488355328) : Hid (∀ W, RSt w0 b (.slice ao l.length c) t W → Calls Tryz.prog 56 #[.pointer (some ⟨b, 0, none⟩), .int .i64 (k : Nat), .bool false] W fun e w' => e = .returned (.tuple #[]) ∧ PoR w0 b (.slice ao l.length c) T W w') := fun W hW => by
  have z := roper_a w0 b ao c l nt k hl hk hN t W hW (by rw [hT]; exact hle)
  rw [hT] at z
  exact z
theorem roper_bh {w0 : World} {b : Nat} {ao : Option Addr} {c : Nat} {l : List Nd} {nt : Nat → Tks} {k : Nat} {t T : List UInt8} (hl : NdA w0 ao c l) (hk : k < l.length) (hN : NodeR w0 b (.slice ao l.length c) nt k) (hT : run t (brT nt l 19961934249984 k) = T) (hle : T.length ≤ 140737488355328) : Hid (∀ W, RSt w0 b (.slice ao l.length c) t W → Calls Tryz.prog 56 #[.pointer (some ⟨b, 0, none⟩), .int .i64 (k : Nat), .bool true] W fun e w' => e = .returned (.tuple #[]) ∧ PoR w0 b (.slice ao l.length c) T W w') := fun W hW => by
  have z := roper_b w0 b ao c l nt k hl hk hN t W hW (by rw [hT]; exact hle)
  rw [hT] at z
  exact z
set_option maxRecDepth 100000 in
set_option maxHeartbeats 4000000 in
theorem rbrace80 (w0 : World) (b : Nat) (nd : Value) (nt : Nat → Tks) (ks : List Int) (ao : Option Addr) (c : Nat) (hI : IsA w0 ao c ks) (hN : ∀ y ∈ ks, 0 ≤ y ∧ NodeR w0 b nd nt y.toNat) (t T : List UInt8) (hT : run (run (run t [[123]]) (comT nt 0 ks)) [[125]] = T) (hlen : T.length ≤ 140737488355328) : Hid (∀ W, RSt w0 b nd t W → Calls Tryz.prog 80 #[.pointer (some ⟨b, 0, none⟩), .slice ao ks.length c] W fun e w' => e = .returned (.tuple #[]) ∧ PoR w0 b nd T W w') := by
  intro W hS
  obtain ⟨T1, hT1⟩ : ∃ T1, run t [[123]] = T1 := ⟨_, rfl⟩
  rw [hT1] at hT
  obtain ⟨T2, hT2⟩ : ∃ T2, run T1 (comT nt 0 ks) = T2 := ⟨_, rfl⟩
  rw [hT2] at hT
  have l2 : T2.length ≤ 140737488355328 := Nat.le_trans (run_le _ _) (by rw [hT]; exact hlen)
  have l1 : T1.length ≤ 140737488355328 := Nat.le_trans (run_le _ _) (by rw [hT2]; exact l2)
  have H1 := rput_h (w0 := w0) (b := b) (nd := nd) (s := ⟨#[123]⟩) (by simp) hT1 l1
  have H2 := rrow_h hI hN hT2 l2
  have H3 := rput_h (w0 := w0) (b := b) (nd := nd) (s := ⟨#[125]⟩) (by simp) hT hlen
  have h1 := hI.1
  have h2 := hI.2.1
  have HS : Hid (RSt w0 b nd t W) := hS
  clear hI hN hT hT1 hT2 l1 l2 hlen hS
  generalize ks.length = m at *
  go_enter Tryz.func80, Tryz.ntmps80
  go_wp2_with fail
  refine (H1.out _ HS.out).mono ?_
  rintro e w1 ⟨rfl, hE⟩
  have HE1 : Hid (PoR w0 b nd T1 W w1) := hE
  clear hE
  go_wp2_with fail
  refine (H2.out _ HE1.out.1).mono ?_
  rintro e w2 ⟨rfl, hE⟩
  have HE2 : Hid (PoR w0 b nd T2 W w2) := HE1.out.trans hE
  clear hE
  go_wp2_with fail
  refine (H3.out _ HE2.out.1).mono ?_
  rintro e w3 ⟨rfl, hE⟩
  have HE : Hid (PoR w0 b nd T W w3) := HE2.out.trans hE
  clear hE
  go_wp2
  go_end0
  exact ⟨rfl, HE.out⟩
end
section
open Go.RowKit Go.Shelf
def PrR (w0 : World) (b : Nat) (nd : Value) (l : List Nd) (nt : Nat → Tks) (F : Nat) (x : Nd) (ps : List Pt) : Prop := ∀ t W, RSt w0 b nd t W → (run t (psT nt l ps)).length ≤ 140737488355328 → Calls Tryz.prog F #[.pointer (some ⟨b, 0, none⟩), nda x] W fun e w' => e = .returned (.tuple #[]) ∧ PoR w0 b nd (run t (psT nt l ps)) W w'
theorem run_none (t : List UInt8) (L : Tks) : run t ([] :: L) = run t L := rfl
theorem run_nil (t : List UInt8) : run t [] = t := rfl
theorem run_e (t : List UInt8) : run t [[]] = t := rfl
theorem mutS_1 : mutS 1 = ⟨#[109, 117, 116]⟩ := rfl
theorem mutS_0 {v : Int} (h : ¬ v = 1) : (mutS v).data.toList = [] := by unfold mutS; rw [if_neg h]
/-- All that is asked of a node that the document's printer puts. -/
structure NdR (w0 : World) (b : Nat) (ao : Option Addr) (c : Nat) (l : List Nd) (nt : Nat → Tks) (K : Nat) (x : Nd) : Prop where
  hl : NdA w0 ao c l
  hK : K ≤ l.length
  hN : ∀ j, j < K → NodeR w0 b (.slice ao l.length c) nt j
  nk : NdK w0 K x
theorem NdR.kid {w0 : World} {b : Nat} {ao : Option Addr} {c : Nat} {l : List Nd} {nt : Nat → Tks} {K : Nat} {x : Nd} (h : NdR w0 b ao c l nt K x) (j : Nat) (hj : j < x.ks.length) : NodeR w0 b (.slice ao l.length c) nt (kidN x j) := h.hN _ (h.nk.kid j hj)
theorem NdR.kl {w0 : World} {b : Nat} {ao : Option Addr} {c : Nat} {l : List Nd} {nt : Nat → Tks} {K : Nat} {x : Nd} (h : NdR w0 b ao c l nt K x) (j : Nat) (hj : j < x.ks.length) : kidN x j < l.length := Nat.lt_of_lt_of_le (h.nk.kid j hj) h.hK
theorem NdR.all {w0 : World} {b : Nat} {ao : Option Addr} {c : Nat} {l : List Nd} {nt : Nat → Tks} {K : Nat} {x : Nd} (h : NdR w0 b ao c l nt K x) : ∀ y ∈ x.ks, 0 ≤ y ∧ NodeR w0 b (.slice ao l.length c) nt y.toNat := fun y hy => ⟨(h.nk.hin y hy).1, h.hN _ (by have := h.nk.hin y hy; omega)⟩
theorem NdR.cells {w0 : World} {b : Nat} {ao : Option Addr} {c : Nat} {l : List Nd} {nt : Nat → Tks} {K : Nat} {x : Nd} (h : NdR w0 b ao c l nt K x) (k : Nat) (hx : l[k]? = some x) (W : World) (hW : Below w0.heap.size w0 W) : ∃ g o, ao = some ⟨g, o, none⟩ ∧ l.length ≤ c ∧ c ≤ 9223372036854775807 ∧ k < l.length ∧ W.cell? ⟨g, o + k * 6, none⟩ = some (.int .i64 x.k) ∧ W.cell? ⟨g, o + k * 6 + 1, none⟩ = some (.string x.nm) ∧ W.cell? ⟨g, o + k * 6 + 2, none⟩ = some (.int .i64 x.v) ∧ W.cell? ⟨g, o + k * 6 + 3, none⟩ = some (.slice x.ka x.ks.length x.kc) ∧ W.cell? ⟨g, o + k * 6 + 4, none⟩ = some (.int .i64 x.fr) ∧ W.cell? ⟨g, o + k * 6 + 5, none⟩ = some (.int .i64 x.en) := by
  have hk : k < l.length := (List.getElem?_eq_some_iff.1 hx).1
  have hlW := h.hl.below hW
  obtain ⟨g, o, e, hnd⟩ := hlW.2.2.2 (by omega)
  exact ⟨g, o, e, hlW.1, hlW.2.1, hk, nd_cells hnd hx⟩
end
end Go.Proofs.YtkkmeogehapjoaaGreatDoor
