/- An instruction's parts, looked at, whatever it is. The three instructions of the little program, looked at. The great region of an instruction's look: its order. The three instructions of the little program are right. An instruction of the little program is right. -/
import Derived.Test.YtdppoblbenbafaaDoorXAA
import Derived.Test.YtdppoblbenbafaaDoorO1
namespace Go.Proofs.YtdppoblbenbafaaDoor
section
open Go.RowKit Go.Shelf
set_option maxHeartbeats 2000000
/-- How many arguments a function of the runtime has. -/
def rtA (l : List UInt8) : Option Int := if l = [114, 116, 46, 114, 101, 97, 100] then some 0 else if l = [114, 116, 46, 112, 114, 105, 110, 116] then some 1 else if l = [114, 116, 46, 97, 108, 108, 111, 99] then some 1 else if l = [114, 116, 46, 102, 114, 101, 101] then some 2 else none
theorem ba_of {s : ByteArray} {l : List UInt8} (h : s.toList = l) : s = ⟨l.toArray⟩ := by
  rw [ByteArray.toList_eq] at h
  cases s with
  | mk d =>
    simp at h
    rw [← h]
def rtV (l : List UInt8) : Value := match rtA l with
  | some n => .tuple #[.int .i64 n, .bool true]
  | none => .tuple #[.int .i64 0, .bool false]
theorem runtimeArgs41 (s : ByteArray) (w : World) : Calls Tryd.prog 42 #[.string s] w fun e w' => e = .returned (rtV s.toList) ∧ w' = w := by
  by_cases h0 : s.toList = [114, 116, 46, 114, 101, 97, 100]
  · have HV : rtV s.toList = .tuple #[.int .i64 0, .bool true] := by rw [h0]; rfl
    rw [HV]
    clear HV
    obtain rfl := ba_of h0
    clear h0
    go_enter Tryd.func42, Tryd.ntmps42
    go_wp2
    go_ret2
    exact ⟨rfl, rfl⟩
  by_cases h1 : s.toList = [114, 116, 46, 112, 114, 105, 110, 116]
  · have HV : rtV s.toList = .tuple #[.int .i64 1, .bool true] := by rw [h1]; rfl
    rw [HV]
    clear HV
    obtain rfl := ba_of h1
    clear h1
    go_enter Tryd.func42, Tryd.ntmps42
    go_wp2
    go_ret2
    exact ⟨rfl, rfl⟩
  by_cases h2 : s.toList = [114, 116, 46, 97, 108, 108, 111, 99]
  · have HV : rtV s.toList = .tuple #[.int .i64 1, .bool true] := by rw [h2]; rfl
    rw [HV]
    clear HV
    obtain rfl := ba_of h2
    clear h2
    go_enter Tryd.func42, Tryd.ntmps42
    go_wp2
    go_ret2
    exact ⟨rfl, rfl⟩
  by_cases h3 : s.toList = [114, 116, 46, 102, 114, 101, 101]
  · have HV : rtV s.toList = .tuple #[.int .i64 2, .bool true] := by rw [h3]; rfl
    rw [HV]
    clear HV
    obtain rfl := ba_of h3
    clear h3
    go_enter Tryd.func42, Tryd.ntmps42
    go_wp2
    go_ret2
    exact ⟨rfl, rfl⟩
  have HV : Hid (rtV s.toList = .tuple #[.int .i64 0, .bool false]) := by
    show _ = _
    unfold rtV rtA
    rw [if_neg h0, if_neg h1, if_neg h2, if_neg h3]
  have q0 : (s.toList == [114, 116, 46, 114, 101, 97, 100]) = false := by simpa using h0
  have q1 : (s.toList == [114, 116, 46, 112, 114, 105, 110, 116]) = false := by simpa using h1
  have q2 : (s.toList == [114, 116, 46, 97, 108, 108, 111, 99]) = false := by simpa using h2
  have q3 : (s.toList == [114, 116, 46, 102, 114, 101, 101]) = false := by simpa using h3
  clear h0 h1 h2 h3
  generalize rtV s.toList = R at *
  go_enter Tryd.func42, Tryd.ntmps42
  go_wp2
  go_ret2
  exact ⟨by rw [HV.out]; rfl, rfl⟩
/-- An instruction. -/
structure Ins where
  op : Int
  d : Int
  a : Int
  b : Int
  n : Int
  nm : ByteArray
  ar : Option Addr
  ac : Nat
  gs : List Int
  to : Int
  el : Int
def inV (i : Ins) : Value := .agg #[.int .i64 i.op, .int .i64 i.d, .int .i64 i.a, .int .i64 i.b, .int .i64 i.n, .string i.nm, .slice i.ar i.gs.length i.ac, .int .i64 i.to, .int .i64 i.el]
/-- A function, but for its blocks. -/
structure Fnh where
  nm : ByteArray
  pa : Int
  rg : Int
  fr : Int
  ba : Option Addr
  bl : Nat
  bc : Nat
def fnhV (f : Fnh) : Value := .agg #[.string f.nm, .int .i64 f.pa, .int .i64 f.rg, .int .i64 f.fr, .slice f.ba f.bl f.bc]
/-- Is an instruction's number right? -/
def numB (fr op n : Int) : Bool := if op = 1 then true else if op = 4 ∨ op = 5 then decide (-2147483648 ≤ n ∧ n ≤ 2147483647 ∧ n % 8 = 0) else if op = 6 then decide (0 ≤ n ∧ n < fr) else if op = 11 then decide (0 ≤ n ∧ n ≤ 255) else decide (n = 0)
theorem tmod8 (n : Int) : (n.tmod 8 = 0) ↔ (n % 8 = 0) := by
  rw [← Int.dvd_iff_tmod_eq_zero, ← Int.dvd_iff_emod_eq_zero]
theorem numberRight66 (f : Fnh) (i : Ins) (w : World) : Calls Tryd.prog 69 #[fnhV f, inV i] w fun e w' => e = .returned (.bool (numB f.fr i.op i.n)) ∧ G w w' := by
  unfold fnhV inV
  generalize i.gs.length = al
  have h8 := tmod8 i.n
  by_cases h1 : i.op = 1
  · have HV : Hid (numB f.fr i.op i.n = true) := by show _ = _; simp [numB, h1]
    generalize numB f.fr i.op i.n = R at *
    rw [h1]
    go_enter Tryd.func69, Tryd.ntmps69
    go_wp2
    go_ret
    exact ⟨ret_bool HV.out.symm, ((G.refl _).alloc _).alloc _⟩
  by_cases h4 : i.op = 4 ∨ i.op = 5
  · have HV : Hid (numB f.fr i.op i.n = decide (-2147483648 ≤ i.n ∧ i.n ≤ 2147483647 ∧ i.n % 8 = 0)) := by show _ = _; unfold numB; rw [if_neg h1, if_pos h4]
    have H8 : Hid ((i.n.tmod 8 = 0) ↔ (i.n % 8 = 0)) := h8
    generalize numB f.fr i.op i.n = R at *
    clear h8
    rcases h4 with h4 | h4
    all_goals
      rw [h4]
      clear h1
      by_cases c1 : -2147483648 ≤ i.n
      · by_cases c2 : i.n ≤ 2147483647
        · have HE : Hid ((i.n.tmod 8 == 0) = R) := by
            show _ = _
            rw [HV.out, Bool.eq_iff_iff]
            simp [c1, c2, H8.out]
          go_enter Tryd.func69, Tryd.ntmps69
          go_wp2
          go_ret
          exact ⟨ret_bool HE.out, ((G.refl _).alloc _).alloc _⟩
        · have HE : Hid (R = false) := by show _ = _; rw [HV.out]; simp; omega
          go_enter Tryd.func69, Tryd.ntmps69
          go_wp2
          go_ret
          exact ⟨ret_bool HE.out.symm, ((G.refl _).alloc _).alloc _⟩
      · have HE : Hid (R = false) := by show _ = _; rw [HV.out]; simp; omega
        go_enter Tryd.func69, Tryd.ntmps69
        go_wp2
        go_ret
        exact ⟨ret_bool HE.out.symm, ((G.refl _).alloc _).alloc _⟩
  have e1 : (i.op == 1) = false := by simp; omega
  have e4 : (i.op == 4) = false := by simp; omega
  have e5 : (i.op == 5) = false := by simp; omega
  clear h8
  by_cases h6 : i.op = 6
  · have HV : Hid (numB f.fr i.op i.n = decide (0 ≤ i.n ∧ i.n < f.fr)) := by show _ = _; unfold numB; rw [if_neg h1, if_neg h4, if_pos h6]
    generalize numB f.fr i.op i.n = R at *
    clear h1 h4 e1 e4 e5
    rw [h6]
    by_cases c1 : 0 ≤ i.n
    · have HE : Hid (decide (i.n < f.fr) = R) := by show _ = _; rw [HV.out]; simp [c1]
      go_enter Tryd.func69, Tryd.ntmps69
      go_wp2
      go_ret
      exact ⟨ret_bool HE.out, ((G.refl _).alloc _).alloc _⟩
    · have HE : Hid (R = false) := by show _ = _; rw [HV.out]; simp; omega
      go_enter Tryd.func69, Tryd.ntmps69
      go_wp2
      go_ret
      exact ⟨ret_bool HE.out.symm, ((G.refl _).alloc _).alloc _⟩
  have e6 : (i.op == 6) = false := by simp; omega
  by_cases h11 : i.op = 11
  · have HV : Hid (numB f.fr i.op i.n = decide (0 ≤ i.n ∧ i.n ≤ 255)) := by show _ = _; unfold numB; rw [if_neg h1, if_neg h4, if_neg h6, if_pos h11]
    generalize numB f.fr i.op i.n = R at *
    clear h1 h4 h6 e1 e4 e5 e6
    rw [h11]
    by_cases c1 : 0 ≤ i.n
    · have HE : Hid (decide (i.n ≤ 255) = R) := by show _ = _; rw [HV.out]; simp [c1]
      go_enter Tryd.func69, Tryd.ntmps69
      go_wp2
      go_ret
      exact ⟨ret_bool HE.out, ((G.refl _).alloc _).alloc _⟩
    · have HE : Hid (R = false) := by show _ = _; rw [HV.out]; simp; omega
      go_enter Tryd.func69, Tryd.ntmps69
      go_wp2
      go_ret
      exact ⟨ret_bool HE.out.symm, ((G.refl _).alloc _).alloc _⟩
  have e11 : (i.op == 11) = false := by simp; omega
  have HV : Hid ((i.n == 0) = numB f.fr i.op i.n) := by show _ = _; unfold numB; rw [if_neg h1, if_neg h4, if_neg h6, if_neg h11]; rw [Bool.eq_iff_iff]; simp
  generalize numB f.fr i.op i.n = R at *
  clear h1 h4 h6 h11
  go_enter Tryd.func69, Tryd.ntmps69
  go_wp2
  go_ret
  exact ⟨ret_bool HV.out, ((G.refl _).alloc _).alloc _⟩
end
section
open Go.RowKit Go.Shelf
set_option maxHeartbeats 1000000 in
theorem callee_printG (m1 m2 : Value) (w : World) : Calls Tryd.prog 77 #[.agg #[m1, m2], .string ⟨#[114, 116, 46, 112, 114, 105, 110, 116]⟩, .int .i64 1] w fun e w' => e = .returned (.bool true) ∧ G w w' := by
  go_enter Tryd.func77, Tryd.ntmps77
  go_wp2_with (first | (go_at_call 42; refine (rta_print _).mono ?_; rintro e w' ⟨rfl, rfl⟩))
  go_ret
  exact ⟨rfl, (G.refl _).alloc _⟩
def rtp : ByteArray := ⟨#[114, 116, 46, 112, 114, 105, 110, 116]⟩
/-- The function's value, and the three instructions' (y: where the call's arguments lie). -/
def fv (y : Nat) : Value := .agg #[.string ⟨#[109, 97, 105, 110]⟩, .int .i64 0, .int .i64 1, .int .i64 0, .slice (some ⟨y, 0, none⟩) 1 1]
def i0 : Value := .agg #[.int .i64 1, .int .i64 0, .int .i64 0, .int .i64 0, .int .i64 7, .string ⟨#[]⟩, .slice none 0 0, .int .i64 0, .int .i64 0]
def i1 (y : Nat) : Value := .agg #[.int .i64 7, .int .i64 (-1), .int .i64 0, .int .i64 0, .int .i64 0, .string ⟨#[114, 116, 46, 112, 114, 105, 110, 116]⟩, .slice (some ⟨y, 0, none⟩) 1 1, .int .i64 0, .int .i64 0]
def i2 : Value := .agg #[.int .i64 10, .int .i64 0, .int .i64 (-1), .int .i64 0, .int .i64 0, .string ⟨#[]⟩, .slice none 0 0, .int .i64 0, .int .i64 0]
set_option maxHeartbeats 1000000 in
theorem num_0 (y : Nat) (w : World) : Calls Tryd.prog 69 #[fv y, i0] w fun e w' => e = .returned (.bool true) ∧ G w w' := by
  unfold fv i0
  go_enter Tryd.func69, Tryd.ntmps69
  go_wp2
  go_ret
  exact ⟨rfl, ((G.refl _).alloc _).alloc _⟩
set_option maxHeartbeats 1000000 in
theorem num_1 (y z : Nat) (w : World) : Calls Tryd.prog 69 #[fv y, i1 z] w fun e w' => e = .returned (.bool true) ∧ G w w' := by
  unfold fv i1
  go_enter Tryd.func69, Tryd.ntmps69
  go_wp2
  go_ret
  exact ⟨rfl, ((G.refl _).alloc _).alloc _⟩
set_option maxHeartbeats 1000000 in
theorem num_2 (y : Nat) (w : World) : Calls Tryd.prog 69 #[fv y, i2] w fun e w' => e = .returned (.bool true) ∧ G w w' := by
  unfold fv i2
  go_enter Tryd.func69, Tryd.ntmps69
  go_wp2
  go_ret
  exact ⟨rfl, ((G.refl _).alloc _).alloc _⟩
set_option maxHeartbeats 1000000 in
theorem nam_0 (a b : Nat) (w : World) : Calls Tryd.prog 70 #[.agg #[.map (some a), .map (some b)], i0] w fun e w' => e = .returned (.bool true) ∧ G w w' := by
  unfold i0
  go_enter Tryd.func70, Tryd.ntmps70
  go_wp2
  go_ret
  exact ⟨rfl, ((G.refl _).alloc _).alloc _⟩
set_option maxHeartbeats 1000000 in
theorem nam_2 (a b : Nat) (w : World) : Calls Tryd.prog 70 #[.agg #[.map (some a), .map (some b)], i2] w fun e w' => e = .returned (.bool true) ∧ G w w' := by
  unfold i2
  go_enter Tryd.func70, Tryd.ntmps70
  go_wp2
  go_ret
  exact ⟨rfl, ((G.refl _).alloc _).alloc _⟩
set_option maxHeartbeats 1000000 in
theorem nam_1 (z a b : Nat) (w : World) : Calls Tryd.prog 70 #[.agg #[.map (some a), .map (some b)], i1 z] w fun e w' => e = .returned (.bool true) ∧ G w w' := by
  unfold i1
  go_enter Tryd.func70, Tryd.ntmps70
  go_wp2_with (first | (go_at_call 77; refine (callee_printG _ _ _).mono ?_; rintro e w1 ⟨rfl, hb⟩))
  go_ret
  exact ⟨rfl, (((G.refl _).alloc _).alloc _).trans hb⟩
end
section
open Go.RowKit Go.Shelf
/-- The operations of a region, by its number. -/
def opsOf : Code → Nat → List Oper
  | .region id ops _, n => if id = n then ops.toList else []
  | .seq a b, n => match opsOf a n with
    | [] => opsOf b n
    | l => l
  | .cond _ a b, n => match opsOf a n with
    | [] => opsOf b n
    | l => l
  | .block _ b, n => opsOf b n
  | .loop b, n => opsOf b n
  | .scope b, n => opsOf b n
  | _, _ => []
theorem lex59 : Region.lexB .any (opsOf (Tryd.f62.body.getD .skip) 11).toArray = true := by kernel_rfl
end
section
open Go.RowKit Go.Shelf
/-- What is asked of the table of forms here. -/
structure Tf (w : World) : Prop where
  c1 : w.cell? ⟨0, 3, none⟩ = some (.string ⟨#[68, 78]⟩)
  c7 : w.cell? ⟨0, 15, none⟩ = some (.string ⟨#[68, 83, 82]⟩)
  c10 : w.cell? ⟨0, 21, none⟩ = some (.string ⟨#[65]⟩)
  pos : 0 < w.heap.size
theorem Tf.below {w w1 : World} (h : Tf w) (hb : Below w.heap.size w w1) : Tf w1 :=
  ⟨by rw [hb.cell (p := ⟨0, 3, none⟩) h.pos]; exact h.c1, by rw [hb.cell (p := ⟨0, 15, none⟩) h.pos]; exact h.c7, by rw [hb.cell (p := ⟨0, 21, none⟩) h.pos]; exact h.c10, Nat.lt_of_lt_of_le h.pos hb.size⟩
theorem bel_t (n e : Int) (h : 0 ≤ n ∧ n < e) (w : World) : Calls Tryd.prog 68 #[.int .i64 n, .bool true, .int .i64 e] w fun r w' => r = .returned (.bool true) ∧ w' = w := by
  have t := below65 n true e w
  rw [show belB n true e = true by simp [belB]; omega] at t
  exact t
theorem bel_f (e : Int) (w : World) : Calls Tryd.prog 68 #[.int .i64 0, .bool false, .int .i64 e] w fun r w' => r = .returned (.bool true) ∧ w' = w := below65 0 false e w
end
section
open Go.RowKit Go.Shelf
set_option maxRecDepth 100000 in
set_option maxHeartbeats 4000000 in
theorem ins_0 (y a b : Nat) (w : World) (hT : Tf w) : Calls Tryd.prog 62 #[.agg #[.map (some a), .map (some b)], fv y, i0] w fun e w' => e = .returned (.bool true) ∧ G w w' := by
  obtain ⟨k1, _, _, kp⟩ := hT
  have hf : ∀ (c : UInt8) (r : Bool) (B : Nat) (w : World), hsB ⟨#[68, 78]⟩ c = r → w.cell? ⟨B, 0, none⟩ = some (.string ⟨#[68, 78]⟩) → Calls Tryd.prog 66 #[.string ⟨#[c]⟩, .pointer (some ⟨B, 0, none⟩)] w fun e w' => e = .returned (.bool r) ∧ w' = w := fun c r B w hr h => by
    subst hr
    exact has63 _ c B w h
  have hN := fun w => num_0 y w
  have hM := fun w => nam_0 a b w
  unfold fv i0 at *
  go_enter Tryd.func62, Tryd.ntmps62
  go_wp2
  refine wp_loop_rounds 1 ?_
  rw [rounds_succ]
  go_wp2
  have HG : Hid (G w ((((w.alloc (.cells #[.map (some a), .map (some b)] 68)).alloc (.cells #[.string ⟨#[109, 97, 105, 110]⟩, .int .i64 0, .int .i64 1, .int .i64 0, .slice (some ⟨y, 0, none⟩) 1 1] 43)).alloc (.cells #[.int .i64 1, .int .i64 0, .int .i64 0, .int .i64 0, .int .i64 7, .string ⟨#[]⟩, .slice none 0 0, .int .i64 0, .int .i64 0] 49)).alloc (.cells #[.string ⟨#[68, 78]⟩] 9))) := ((((G.refl _).alloc _).alloc _).alloc _).alloc _
  have q00 := gcell (W := (((w.alloc (.cells #[.map (some a), .map (some b)] 68)).alloc (.cells #[.string ⟨#[109, 97, 105, 110]⟩, .int .i64 0, .int .i64 1, .int .i64 0, .slice (some ⟨y, 0, none⟩) 1 1] 43)).alloc (.cells #[.int .i64 1, .int .i64 0, .int .i64 0, .int .i64 0, .int .i64 7, .string ⟨#[]⟩, .slice none 0 0, .int .i64 0, .int .i64 0] 49)).alloc (.cells #[.string ⟨#[68, 78]⟩] 9)) (b := w.heap.size) (o := 0) (v := .map (some a)) (by first | (simp; done) | (simp; omega)) (by go_simp)
  have q01 := gcell (W := (((w.alloc (.cells #[.map (some a), .map (some b)] 68)).alloc (.cells #[.string ⟨#[109, 97, 105, 110]⟩, .int .i64 0, .int .i64 1, .int .i64 0, .slice (some ⟨y, 0, none⟩) 1 1] 43)).alloc (.cells #[.int .i64 1, .int .i64 0, .int .i64 0, .int .i64 0, .int .i64 7, .string ⟨#[]⟩, .slice none 0 0, .int .i64 0, .int .i64 0] 49)).alloc (.cells #[.string ⟨#[68, 78]⟩] 9)) (b := w.heap.size) (o := 1) (v := .map (some b)) (by first | (simp; done) | (simp; omega)) (by go_simp)
  have q10 := gcell (W := (((w.alloc (.cells #[.map (some a), .map (some b)] 68)).alloc (.cells #[.string ⟨#[109, 97, 105, 110]⟩, .int .i64 0, .int .i64 1, .int .i64 0, .slice (some ⟨y, 0, none⟩) 1 1] 43)).alloc (.cells #[.int .i64 1, .int .i64 0, .int .i64 0, .int .i64 0, .int .i64 7, .string ⟨#[]⟩, .slice none 0 0, .int .i64 0, .int .i64 0] 49)).alloc (.cells #[.string ⟨#[68, 78]⟩] 9)) (b := w.heap.size + 1) (o := 0) (v := .string ⟨#[109, 97, 105, 110]⟩) (by first | (simp; done) | (simp; omega)) (by go_simp)
  have q11 := gcell (W := (((w.alloc (.cells #[.map (some a), .map (some b)] 68)).alloc (.cells #[.string ⟨#[109, 97, 105, 110]⟩, .int .i64 0, .int .i64 1, .int .i64 0, .slice (some ⟨y, 0, none⟩) 1 1] 43)).alloc (.cells #[.int .i64 1, .int .i64 0, .int .i64 0, .int .i64 0, .int .i64 7, .string ⟨#[]⟩, .slice none 0 0, .int .i64 0, .int .i64 0] 49)).alloc (.cells #[.string ⟨#[68, 78]⟩] 9)) (b := w.heap.size + 1) (o := 1) (v := .int .i64 0) (by first | (simp; done) | (simp; omega)) (by go_simp)
  have q12 := gcell (W := (((w.alloc (.cells #[.map (some a), .map (some b)] 68)).alloc (.cells #[.string ⟨#[109, 97, 105, 110]⟩, .int .i64 0, .int .i64 1, .int .i64 0, .slice (some ⟨y, 0, none⟩) 1 1] 43)).alloc (.cells #[.int .i64 1, .int .i64 0, .int .i64 0, .int .i64 0, .int .i64 7, .string ⟨#[]⟩, .slice none 0 0, .int .i64 0, .int .i64 0] 49)).alloc (.cells #[.string ⟨#[68, 78]⟩] 9)) (b := w.heap.size + 1) (o := 2) (v := .int .i64 1) (by first | (simp; done) | (simp; omega)) (by go_simp)
  have q13 := gcell (W := (((w.alloc (.cells #[.map (some a), .map (some b)] 68)).alloc (.cells #[.string ⟨#[109, 97, 105, 110]⟩, .int .i64 0, .int .i64 1, .int .i64 0, .slice (some ⟨y, 0, none⟩) 1 1] 43)).alloc (.cells #[.int .i64 1, .int .i64 0, .int .i64 0, .int .i64 0, .int .i64 7, .string ⟨#[]⟩, .slice none 0 0, .int .i64 0, .int .i64 0] 49)).alloc (.cells #[.string ⟨#[68, 78]⟩] 9)) (b := w.heap.size + 1) (o := 3) (v := .int .i64 0) (by first | (simp; done) | (simp; omega)) (by go_simp)
  have q14 := gcell (W := (((w.alloc (.cells #[.map (some a), .map (some b)] 68)).alloc (.cells #[.string ⟨#[109, 97, 105, 110]⟩, .int .i64 0, .int .i64 1, .int .i64 0, .slice (some ⟨y, 0, none⟩) 1 1] 43)).alloc (.cells #[.int .i64 1, .int .i64 0, .int .i64 0, .int .i64 0, .int .i64 7, .string ⟨#[]⟩, .slice none 0 0, .int .i64 0, .int .i64 0] 49)).alloc (.cells #[.string ⟨#[68, 78]⟩] 9)) (b := w.heap.size + 1) (o := 4) (v := .slice (some ⟨y, 0, none⟩) 1 1) (by first | (simp; done) | (simp; omega)) (by go_simp)
  have q20 := gcell (W := (((w.alloc (.cells #[.map (some a), .map (some b)] 68)).alloc (.cells #[.string ⟨#[109, 97, 105, 110]⟩, .int .i64 0, .int .i64 1, .int .i64 0, .slice (some ⟨y, 0, none⟩) 1 1] 43)).alloc (.cells #[.int .i64 1, .int .i64 0, .int .i64 0, .int .i64 0, .int .i64 7, .string ⟨#[]⟩, .slice none 0 0, .int .i64 0, .int .i64 0] 49)).alloc (.cells #[.string ⟨#[68, 78]⟩] 9)) (b := w.heap.size + 1 + 1) (o := 0) (v := .int .i64 1) (by first | (simp; done) | (simp; omega)) (by go_simp)
  have q21 := gcell (W := (((w.alloc (.cells #[.map (some a), .map (some b)] 68)).alloc (.cells #[.string ⟨#[109, 97, 105, 110]⟩, .int .i64 0, .int .i64 1, .int .i64 0, .slice (some ⟨y, 0, none⟩) 1 1] 43)).alloc (.cells #[.int .i64 1, .int .i64 0, .int .i64 0, .int .i64 0, .int .i64 7, .string ⟨#[]⟩, .slice none 0 0, .int .i64 0, .int .i64 0] 49)).alloc (.cells #[.string ⟨#[68, 78]⟩] 9)) (b := w.heap.size + 1 + 1) (o := 1) (v := .int .i64 0) (by first | (simp; done) | (simp; omega)) (by go_simp)
  have q22 := gcell (W := (((w.alloc (.cells #[.map (some a), .map (some b)] 68)).alloc (.cells #[.string ⟨#[109, 97, 105, 110]⟩, .int .i64 0, .int .i64 1, .int .i64 0, .slice (some ⟨y, 0, none⟩) 1 1] 43)).alloc (.cells #[.int .i64 1, .int .i64 0, .int .i64 0, .int .i64 0, .int .i64 7, .string ⟨#[]⟩, .slice none 0 0, .int .i64 0, .int .i64 0] 49)).alloc (.cells #[.string ⟨#[68, 78]⟩] 9)) (b := w.heap.size + 1 + 1) (o := 2) (v := .int .i64 0) (by first | (simp; done) | (simp; omega)) (by go_simp)
  have q23 := gcell (W := (((w.alloc (.cells #[.map (some a), .map (some b)] 68)).alloc (.cells #[.string ⟨#[109, 97, 105, 110]⟩, .int .i64 0, .int .i64 1, .int .i64 0, .slice (some ⟨y, 0, none⟩) 1 1] 43)).alloc (.cells #[.int .i64 1, .int .i64 0, .int .i64 0, .int .i64 0, .int .i64 7, .string ⟨#[]⟩, .slice none 0 0, .int .i64 0, .int .i64 0] 49)).alloc (.cells #[.string ⟨#[68, 78]⟩] 9)) (b := w.heap.size + 1 + 1) (o := 3) (v := .int .i64 0) (by first | (simp; done) | (simp; omega)) (by go_simp)
  have q24 := gcell (W := (((w.alloc (.cells #[.map (some a), .map (some b)] 68)).alloc (.cells #[.string ⟨#[109, 97, 105, 110]⟩, .int .i64 0, .int .i64 1, .int .i64 0, .slice (some ⟨y, 0, none⟩) 1 1] 43)).alloc (.cells #[.int .i64 1, .int .i64 0, .int .i64 0, .int .i64 0, .int .i64 7, .string ⟨#[]⟩, .slice none 0 0, .int .i64 0, .int .i64 0] 49)).alloc (.cells #[.string ⟨#[68, 78]⟩] 9)) (b := w.heap.size + 1 + 1) (o := 4) (v := .int .i64 7) (by first | (simp; done) | (simp; omega)) (by go_simp)
  have q25 := gcell (W := (((w.alloc (.cells #[.map (some a), .map (some b)] 68)).alloc (.cells #[.string ⟨#[109, 97, 105, 110]⟩, .int .i64 0, .int .i64 1, .int .i64 0, .slice (some ⟨y, 0, none⟩) 1 1] 43)).alloc (.cells #[.int .i64 1, .int .i64 0, .int .i64 0, .int .i64 0, .int .i64 7, .string ⟨#[]⟩, .slice none 0 0, .int .i64 0, .int .i64 0] 49)).alloc (.cells #[.string ⟨#[68, 78]⟩] 9)) (b := w.heap.size + 1 + 1) (o := 5) (v := .string ⟨#[]⟩) (by first | (simp; done) | (simp; omega)) (by go_simp)
  have q26 := gcell (W := (((w.alloc (.cells #[.map (some a), .map (some b)] 68)).alloc (.cells #[.string ⟨#[109, 97, 105, 110]⟩, .int .i64 0, .int .i64 1, .int .i64 0, .slice (some ⟨y, 0, none⟩) 1 1] 43)).alloc (.cells #[.int .i64 1, .int .i64 0, .int .i64 0, .int .i64 0, .int .i64 7, .string ⟨#[]⟩, .slice none 0 0, .int .i64 0, .int .i64 0] 49)).alloc (.cells #[.string ⟨#[68, 78]⟩] 9)) (b := w.heap.size + 1 + 1) (o := 6) (v := .slice none 0 0) (by first | (simp; done) | (simp; omega)) (by go_simp)
  have q27 := gcell (W := (((w.alloc (.cells #[.map (some a), .map (some b)] 68)).alloc (.cells #[.string ⟨#[109, 97, 105, 110]⟩, .int .i64 0, .int .i64 1, .int .i64 0, .slice (some ⟨y, 0, none⟩) 1 1] 43)).alloc (.cells #[.int .i64 1, .int .i64 0, .int .i64 0, .int .i64 0, .int .i64 7, .string ⟨#[]⟩, .slice none 0 0, .int .i64 0, .int .i64 0] 49)).alloc (.cells #[.string ⟨#[68, 78]⟩] 9)) (b := w.heap.size + 1 + 1) (o := 7) (v := .int .i64 0) (by first | (simp; done) | (simp; omega)) (by go_simp)
  have q28 := gcell (W := (((w.alloc (.cells #[.map (some a), .map (some b)] 68)).alloc (.cells #[.string ⟨#[109, 97, 105, 110]⟩, .int .i64 0, .int .i64 1, .int .i64 0, .slice (some ⟨y, 0, none⟩) 1 1] 43)).alloc (.cells #[.int .i64 1, .int .i64 0, .int .i64 0, .int .i64 0, .int .i64 7, .string ⟨#[]⟩, .slice none 0 0, .int .i64 0, .int .i64 0] 49)).alloc (.cells #[.string ⟨#[68, 78]⟩] 9)) (b := w.heap.size + 1 + 1) (o := 8) (v := .int .i64 0) (by first | (simp; done) | (simp; omega)) (by go_simp)
  have q30 := gcell (W := (((w.alloc (.cells #[.map (some a), .map (some b)] 68)).alloc (.cells #[.string ⟨#[109, 97, 105, 110]⟩, .int .i64 0, .int .i64 1, .int .i64 0, .slice (some ⟨y, 0, none⟩) 1 1] 43)).alloc (.cells #[.int .i64 1, .int .i64 0, .int .i64 0, .int .i64 0, .int .i64 7, .string ⟨#[]⟩, .slice none 0 0, .int .i64 0, .int .i64 0] 49)).alloc (.cells #[.string ⟨#[68, 78]⟩] 9)) (b := w.heap.size + 1 + 1 + 1) (o := 0) (v := .string ⟨#[68, 78]⟩) (by first | (simp; done) | (simp; omega)) (by go_simp)
  generalize (((w.alloc (.cells #[.map (some a), .map (some b)] 68)).alloc (.cells #[.string ⟨#[109, 97, 105, 110]⟩, .int .i64 0, .int .i64 1, .int .i64 0, .slice (some ⟨y, 0, none⟩) 1 1] 43)).alloc (.cells #[.int .i64 1, .int .i64 0, .int .i64 0, .int .i64 0, .int .i64 7, .string ⟨#[]⟩, .slice none 0 0, .int .i64 0, .int .i64 0] 49)).alloc (.cells #[.string ⟨#[68, 78]⟩] 9) = W at *
  have h68 : ∀ n os, Calls Tryd.prog 66 #[.string ⟨#[68]⟩, .pointer (some ⟨w.heap.size + 1 + 1 + 1, 0, none⟩)] (Go.Sort.grow (W.drewN n) os) fun e w2 => e = .returned (.bool true) ∧ ∃ p : GrownBy, w2 = Go.Sort.grow (W.drewN p.n) p.os := fun n os => G.same (hf 68 true _ _ (by decide) (q30 n os))
  have h65 : ∀ n os, Calls Tryd.prog 66 #[.string ⟨#[65]⟩, .pointer (some ⟨w.heap.size + 1 + 1 + 1, 0, none⟩)] (Go.Sort.grow (W.drewN n) os) fun e w2 => e = .returned (.bool false) ∧ ∃ p : GrownBy, w2 = Go.Sort.grow (W.drewN p.n) p.os := fun n os => G.same (hf 65 false _ _ (by decide) (q30 n os))
  have h66 : ∀ n os, Calls Tryd.prog 66 #[.string ⟨#[66]⟩, .pointer (some ⟨w.heap.size + 1 + 1 + 1, 0, none⟩)] (Go.Sort.grow (W.drewN n) os) fun e w2 => e = .returned (.bool false) ∧ ∃ p : GrownBy, w2 = Go.Sort.grow (W.drewN p.n) p.os := fun n os => G.same (hf 66 false _ _ (by decide) (q30 n os))
  have h84 : ∀ n os, Calls Tryd.prog 66 #[.string ⟨#[84]⟩, .pointer (some ⟨w.heap.size + 1 + 1 + 1, 0, none⟩)] (Go.Sort.grow (W.drewN n) os) fun e w2 => e = .returned (.bool false) ∧ ∃ p : GrownBy, w2 = Go.Sort.grow (W.drewN p.n) p.os := fun n os => G.same (hf 84 false _ _ (by decide) (q30 n os))
  have h69 : ∀ n os, Calls Tryd.prog 66 #[.string ⟨#[69]⟩, .pointer (some ⟨w.heap.size + 1 + 1 + 1, 0, none⟩)] (Go.Sort.grow (W.drewN n) os) fun e w2 => e = .returned (.bool false) ∧ ∃ p : GrownBy, w2 = Go.Sort.grow (W.drewN p.n) p.os := fun n os => G.same (hf 69 false _ _ (by decide) (q30 n os))
  have ht : ∀ n os, Calls Tryd.prog 68 #[.int .i64 0, .bool true, .int .i64 1] (Go.Sort.grow (W.drewN n) os) fun e w2 => e = .returned (.bool true) ∧ ∃ p : GrownBy, w2 = Go.Sort.grow (W.drewN p.n) p.os := fun n os => G.same (bel_t 0 1 (by omega) _)
  have hff : ∀ n os, Calls Tryd.prog 68 #[.int .i64 0, .bool false, .int .i64 1] (Go.Sort.grow (W.drewN n) os) fun e w2 => e = .returned (.bool true) ∧ ∃ p : GrownBy, w2 = Go.Sort.grow (W.drewN p.n) p.os := fun n os => G.same (bel_f 1 _)
  replace hN := fun n os => G.to (w := W) (n := n) (os := os) (hN _)
  replace hM := fun n os => G.to (w := W) (n := n) (os := os) (hM _)
  clear hf
  refine wp_region_quiet_grown (by kernel_rfl) (by exact lex59) ?_
  dsimp only [List.append]
  repeat (go_big_quiet_step ((first | (go_at_call 66; first | with_reducible exact h68 _ _ | with_reducible exact h65 _ _ | with_reducible exact h66 _ _ | with_reducible exact h84 _ _ | with_reducible exact h69 _ _) | (go_at_call 68; first | with_reducible exact ht _ _ | with_reducible exact hff _ _) | (go_at_call 69; with_reducible exact hN _ _) | (go_at_call 70; with_reducible exact hM _ _))))
  refine wpQuiet_nil ?_
  intro _ hw'
  obtain ⟨⟨nq, osq⟩, hw''⟩ := hw'
  subst hw''
  go_wp2
  go_ret
  exact ⟨rfl, HG.out.trans ⟨_, _, rfl⟩⟩
end
end Go.Proofs.YtdppoblbenbafaaDoor
