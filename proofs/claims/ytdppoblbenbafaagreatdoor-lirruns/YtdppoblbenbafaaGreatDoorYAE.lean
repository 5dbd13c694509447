/- An instruction's parts, looked at, whatever it is. Who may be called, and an instruction's name and arguments. An instruction's name and arguments. An instruction, looked at: what lies ahead. -/
import Derived.Test.YtdppoblbenbafaaGreatDoorYAB
import Derived.Test.YtdppoblbenbafaaGreatDoorO1
import Derived.Test.YtdppoblbenbafaaGreatDoorYAD
import Derived.Laws.Cover3
import Derived.Laws.EntriesVeiled
namespace Go.Proofs.YtdppoblbenbafaaGreatDoor
section
open Go.RowKit Go.Shelf
set_option maxHeartbeats 2000000
/-- How many arguments a function of the runtime has. -/
def rtA (l : List UInt8) : Option Int := if l = [114, 116, 46, 114, 101, 97, 100] then some 0 else if l = [114, 116, 46, 112, 114, 105, 110, 116] then some 1 else if l = [114, 116, 46, 97, 108, 108, 111, 99] then some 1 else if l = [114, 116, 46, 102, 114, 101, 101] then some 2 else none
theorem ba_of {s : ByteArray} {l : List UInt8} (h : s.toList = l) : s = ⟨l.toArray⟩ := by
  rw [ByteArray.toList_eq] at h
  cases s with
  | mk d =>
    simp at h
    rw [← h]
def rtV (l : List UInt8) : Value := match rtA l with
  | some n => .tuple #[.int .i64 n, .bool true]
  | none => .tuple #[.int .i64 0, .bool false]
theorem runtimeArgs41 (s : ByteArray) (w : World) : Calls Tryz.prog 99 #[.string s] w fun e w' => e = .returned (rtV s.toList) ∧ w' = w := by
  by_cases h0 : s.toList = [114, 116, 46, 114, 101, 97, 100]
  · have HV : rtV s.toList = .tuple #[.int .i64 0, .bool true] := by rw [h0]; rfl
    rw [HV]
    clear HV
    obtain rfl := ba_of h0
    clear h0
    go_enter Tryz.func99, Tryz.ntmps99
    go_wp2
    go_ret2
    exact ⟨rfl, rfl⟩
  by_cases h1 : s.toList = [114, 116, 46, 112, 114, 105, 110, 116]
  · have HV : rtV s.toList = .tuple #[.int .i64 1, .bool true] := by rw [h1]; rfl
    rw [HV]
    clear HV
    obtain rfl := ba_of h1
    clear h1
    go_enter Tryz.func99, Tryz.ntmps99
    go_wp2
    go_ret2
    exact ⟨rfl, rfl⟩
  by_cases h2 : s.toList = [114, 116, 46, 97, 108, 108, 111, 99]
  · have HV : rtV s.toList = .tuple #[.int .i64 1, .bool true] := by rw [h2]; rfl
    rw [HV]
    clear HV
    obtain rfl := ba_of h2
    clear h2
    go_enter Tryz.func99, Tryz.ntmps99
    go_wp2
    go_ret2
    exact ⟨rfl, rfl⟩
  by_cases h3 : s.toList = [114, 116, 46, 102, 114, 101, 101]
  · have HV : rtV s.toList = .tuple #[.int .i64 2, .bool true] := by rw [h3]; rfl
    rw [HV]
    clear HV
    obtain rfl := ba_of h3
    clear h3
    go_enter Tryz.func99, Tryz.ntmps99
    go_wp2
    go_ret2
    exact ⟨rfl, rfl⟩
  have HV : Hid (rtV s.toList = .tuple #[.int .i64 0, .bool false]) := by
    show _ = _
    unfold rtV rtA
    rw [if_neg h0, if_neg h1, if_neg h2, if_neg h3]
  have q0 : (s.toList == [114, 116, 46, 114, 101, 97, 100]) = false := by simpa using h0
  have q1 : (s.toList == [114, 116, 46, 112, 114, 105, 110, 116]) = false := by simpa using h1
  have q2 : (s.toList == [114, 116, 46, 97, 108, 108, 111, 99]) = false := by simpa using h2
  have q3 : (s.toList == [114, 116, 46, 102, 114, 101, 101]) = false := by simpa using h3
  clear h0 h1 h2 h3
  generalize rtV s.toList = R at *
  go_enter Tryz.func99, Tryz.ntmps99
  go_wp2
  go_ret2
  exact ⟨by rw [HV.out]; rfl, rfl⟩
/-- An instruction. -/
structure Ins where
  op : Int
  d : Int
  a : Int
  b : Int
  n : Int
  nm : ByteArray
  ar : Option Addr
  ac : Nat
  gs : List Int
  to : Int
  el : Int
def inV (i : Ins) : Value := .agg #[.int .i64 i.op, .int .i64 i.d, .int .i64 i.a, .int .i64 i.b, .int .i64 i.n, .string i.nm, .slice i.ar i.gs.length i.ac, .int .i64 i.to, .int .i64 i.el]
/-- A function, but for its blocks. -/
structure Fnh where
  nm : ByteArray
  pa : Int
  rg : Int
  fr : Int
  ba : Option Addr
  bl : Nat
  bc : Nat
def fnhV (f : Fnh) : Value := .agg #[.string f.nm, .int .i64 f.pa, .int .i64 f.rg, .int .i64 f.fr, .slice f.ba f.bl f.bc]
/-- Is an instruction's number right? -/
def numB (fr op n : Int) : Bool := if op = 1 then true else if op = 4 ∨ op = 5 then decide (-2147483648 ≤ n ∧ n ≤ 2147483647 ∧ n % 8 = 0) else if op = 6 then decide (0 ≤ n ∧ n < fr) else if op = 11 then decide (0 ≤ n ∧ n ≤ 255) else decide (n = 0)
theorem tmod8 (n : Int) : (n.tmod 8 = 0) ↔ (n % 8 = 0) := by
  rw [← Int.dvd_iff_tmod_eq_zero, ← Int.dvd_iff_emod_eq_zero]
theorem numberRight66 (f : Fnh) (i : Ins) (w : World) : Calls Tryz.prog 127 #[fnhV f, inV i] w fun e w' => e = .returned (.bool (numB f.fr i.op i.n)) ∧ G w w' := by
  unfold fnhV inV
  generalize i.gs.length = al
  have h8 := tmod8 i.n
  by_cases h1 : i.op = 1
  · have HV : Hid (numB f.fr i.op i.n = true) := by show _ = _; simp [numB, h1]
    generalize numB f.fr i.op i.n = R at *
    rw [h1]
    go_enter Tryz.func127, Tryz.ntmps127
    go_wp2
    go_ret
    exact ⟨ret_bool HV.out.symm, ((G.refl _).alloc _).alloc _⟩
  by_cases h4 : i.op = 4 ∨ i.op = 5
  · have HV : Hid (numB f.fr i.op i.n = decide (-2147483648 ≤ i.n ∧ i.n ≤ 2147483647 ∧ i.n % 8 = 0)) := by show _ = _; unfold numB; rw [if_neg h1, if_pos h4]
    have H8 : Hid ((i.n.tmod 8 = 0) ↔ (i.n % 8 = 0)) := h8
    generalize numB f.fr i.op i.n = R at *
    clear h8
    rcases h4 with h4 | h4
    all_goals
      rw [h4]
      clear h1
      by_cases c1 : -2147483648 ≤ i.n
      · by_cases c2 : i.n ≤ 2147483647
        · have HE : Hid ((i.n.tmod 8 == 0) = R) := by
            show _ = _
            rw [HV.out, Bool.eq_iff_iff]
            simp [c1, c2, H8.out]
          go_enter Tryz.func127, Tryz.ntmps127
          go_wp2
          go_ret
          exact ⟨ret_bool HE.out, ((G.refl _).alloc _).alloc _⟩
        · have HE : Hid (R = false) := by show _ = _; rw [HV.out]; simp; omega
          go_enter Tryz.func127, Tryz.ntmps127
          go_wp2
          go_ret
          exact ⟨ret_bool HE.out.symm, ((G.refl _).alloc _).alloc _⟩
      · have HE : Hid (R = false) := by show _ = _; rw [HV.out]; simp; omega
        go_enter Tryz.func127, Tryz.ntmps127
        go_wp2
        go_ret
        exact ⟨ret_bool HE.out.symm, ((G.refl _).alloc _).alloc _⟩
  have e1 : (i.op == 1) = false := by simp; omega
  have e4 : (i.op == 4) = false := by simp; omega
  have e5 : (i.op == 5) = false := by simp; omega
  clear h8
  by_cases h6 : i.op = 6
  · have HV : Hid (numB f.fr i.op i.n = decide (0 ≤ i.n ∧ i.n < f.fr)) := by show _ = _; unfold numB; rw [if_neg h1, if_neg h4, if_pos h6]
    generalize numB f.fr i.op i.n = R at *
    clear h1 h4 e1 e4 e5
    rw [h6]
    by_cases c1 : 0 ≤ i.n
    · have HE : Hid (decide (i.n < f.fr) = R) := by show _ = _; rw [HV.out]; simp [c1]
      go_enter Tryz.func127, Tryz.ntmps127
      go_wp2
      go_ret
      exact ⟨ret_bool HE.out, ((G.refl _).alloc _).alloc _⟩
    · have HE : Hid (R = false) := by show _ = _; rw [HV.out]; simp; omega
      go_enter Tryz.func127, Tryz.ntmps127
      go_wp2
      go_ret
      exact ⟨ret_bool HE.out.symm, ((G.refl _).alloc _).alloc _⟩
  have e6 : (i.op == 6) = false := by simp; omega
  by_cases h11 : i.op = 11
  · have HV : Hid (numB f.fr i.op i.n = decide (0 ≤ i.n ∧ i.n ≤ 255)) := by show _ = _; unfold numB; rw [if_neg h1, if_neg h4, if_neg h6, if_pos h11]
    generalize numB f.fr i.op i.n = R at *
    clear h1 h4 h6 e1 e4 e5 e6
    rw [h11]
    by_cases c1 : 0 ≤ i.n
    · have HE : Hid (decide (i.n ≤ 255) = R) := by show _ = _; rw [HV.out]; simp [c1]
      go_enter Tryz.func127, Tryz.ntmps127
      go_wp2
      go_ret
      exact ⟨ret_bool HE.out, ((G.refl _).alloc _).alloc _⟩
    · have HE : Hid (R = false) := by show _ = _; rw [HV.out]; simp; omega
      go_enter Tryz.func127, Tryz.ntmps127
      go_wp2
      go_ret
      exact ⟨ret_bool HE.out.symm, ((G.refl _).alloc _).alloc _⟩
  have e11 : (i.op == 11) = false := by simp; omega
  have HV : Hid ((i.n == 0) = numB f.fr i.op i.n) := by show _ = _; unfold numB; rw [if_neg h1, if_neg h4, if_neg h6, if_neg h11]; rw [Bool.eq_iff_iff]; simp
  generalize numB f.fr i.op i.n = R at *
  clear h1 h4 h6 h11
  go_enter Tryz.func127, Tryz.ntmps127
  go_wp2
  go_ret
  exact ⟨ret_bool HV.out, ((G.refl _).alloc _).alloc _⟩
end
section
open Go.RowKit Go.Shelf
set_option maxHeartbeats 2000000
set_option maxRecDepth 20000
theorem look59f (r i : Nat) (k : ByteArray) (v : Int) (es : Array MapEntry) (c : Nat) (W : World) (hr : W.heap[r]? = some (.map es c)) (hf : Instr.findNow .string (.string k) es.toList 0 = some (some (i, .int .i64 v))) : (Instr.lookup 58 (.map (some r)) (.string k) true).run Tryz.prog W = .ok (.tuple #[.int .i64 v, .bool true]) W := by
  unfold Instr.lookup
  simp [Sem.run_bind, run_underlying und59, run_getObj_map W r es c hr, check9, Go.MapKept.run_findKey Tryz.underlying9 hf]
/-- May a function be called with so many arguments? fd: what the table of parameters has of the name; none: there is no table. -/
def calB (l : List UInt8) (n : Int) (fd : Option (Option Int)) : Bool := match rtA l with
  | some k => decide (n = k)
  | none => match fd with
    | none => nmB l && decide (n ≤ 7)
    | some none => false
    | some (some k) => decide (n = k)
/-- What the table of parameters, as a value, has of a name. -/
def PmA (W : World) (pv : Value) (s : ByteArray) (fd : Option (Option Int)) : Prop := match fd with
  | none => pv = .map none
  | some none => ∃ r es c, pv = .map (some r) ∧ W.heap[r]? = some (.map es c) ∧ Instr.findNow .string (.string s) es.toList 0 = some none
  | some (some k) => ∃ r es c i, pv = .map (some r) ∧ W.heap[r]? = some (.map es c) ∧ Instr.findNow .string (.string s) es.toList 0 = some (some (i, .int .i64 k))
theorem PmA.g {W W' : World} {pv : Value} {s : ByteArray} {fd : Option (Option Int)} (h : PmA W pv s fd) (hg : Below W.heap.size W W') : PmA W' pv s fd := by
  match fd, h with
  | none, h => exact h
  | some none, ⟨r, es, c, h1, h2, h3⟩ => exact ⟨r, es, c, h1, by rw [hg.block r (Array.getElem?_eq_some_iff.1 h2).1]; exact h2, h3⟩
  | some (some k), ⟨r, es, c, i, h1, h2, h3⟩ => exact ⟨r, es, c, i, h1, by rw [hg.block r (Array.getElem?_eq_some_iff.1 h2).1]; exact h2, h3⟩
theorem eqn59 (o : Option Nat) (w : World) : (binOp .eql 58 (.map o) (.map none)).run Tryz.prog w = .ok (.bool o.isNone) w := by
  simp [binOp, Op.equal, Op.maxDepth, run_equalIn_map_nil w 9999 58 9 3 o und59]
theorem callee74 (m : Nat) (pv : Value) (s : ByteArray) (n : Int) (fd : Option (Option Int)) (w : World) (hs : s.size ≤ maxLen) (hp : PmA w pv s fd) : Calls Tryz.prog 152 #[.agg #[.map (some m), pv], .string s, .int .i64 n] w fun e w' => e = .returned (.bool (calB s.data.toList n fd)) ∧ G w w' := by
  have hR := runtimeArgs41 s
  have hl : s.toList = s.data.toList := ByteArray.toList_eq s
  rw [hl] at hR
  have hN := nameRight46 s
  have hq := fun w => eqn59 none w
  have hq' := fun r w => eqn59 (some r) w
  simp only [Option.isNone] at hq hq'
  cases hr : rtA s.data.toList with
  | some k =>
    have HV : Hid (calB s.data.toList n fd = decide (n = k)) := by show _ = _; unfold calB; rw [hr]
    have hv : rtV s.data.toList = .tuple #[.int .i64 k, .bool true] := by unfold rtV; rw [hr]
    rw [hv] at hR
    generalize calB s.data.toList n fd = R at *
    have HE : Hid ((n == k) = R) := by show _ = _; rw [HV.out, Bool.eq_iff_iff]; simp
    clear hr hv hp hN hl
    go_enter Tryz.func152, Tryz.ntmps152
    go_wp2_with (first | (go_at_call 99; refine (hR _).mono ?_; rintro e w' ⟨rfl, rfl⟩))
    go_ret
    exact ⟨ret_bool HE.out, (G.refl _).alloc _⟩
  | none =>
    have hv : rtV s.data.toList = .tuple #[.int .i64 0, .bool false] := by unfold rtV; rw [hr]
    rw [hv] at hR
    match fd, hp with
    | none, hp =>
      obtain rfl : pv = .map none := hp
      have HV : Hid (calB s.data.toList n none = (nmB s.data.toList && decide (n ≤ 7))) := by show _ = _; unfold calB; rw [hr]
      generalize calB s.data.toList n none = R at *
      have hN' : ∀ w : World, Calls Tryz.prog 59 #[.string s] w fun e w' => e = .returned (.bool (nmB s.data.toList)) ∧ w' = w := fun w => hN w hs
      clear hr hv hN hl
      cases hb : nmB s.data.toList with
      | false =>
        rw [hb] at hN'
        have HE : Hid (false = R) := by show _ = _; rw [HV.out, hb]; rfl
        clear hb
        go_enter Tryz.func152, Tryz.ntmps152
        go_wp2_with (first | (go_at_call 99; refine (hR _).mono ?_; rintro e w' ⟨rfl, rfl⟩) | (go_at_call 59; refine (hN' _).mono ?_; rintro e w' ⟨rfl, rfl⟩))
        go_ret
        exact ⟨ret_bool HE.out, (G.refl _).alloc _⟩
      | true =>
        rw [hb] at hN'
        have HE : Hid (decide (n ≤ 7) = R) := by show _ = _; rw [HV.out, hb]; rfl
        clear hb
        go_enter Tryz.func152, Tryz.ntmps152
        go_wp2_with (first | (go_at_call 99; refine (hR _).mono ?_; rintro e w' ⟨rfl, rfl⟩) | (go_at_call 59; refine (hN' _).mono ?_; rintro e w' ⟨rfl, rfl⟩))
        go_ret
        exact ⟨ret_bool HE.out, (G.refl _).alloc _⟩
    | some none, hp =>
      obtain ⟨r, es, c, rfl, h2, h3⟩ := hp
      have HV : Hid (false = calB s.data.toList n (some none)) := by show _ = _; unfold calB; rw [hr]
      generalize calB s.data.toList n (some none) = R at *
      have hlk := look59 r s es c (w.alloc (.cells #[.map (some m), .map (some r)] 60)) (by rw [(Go.MapKept.heap_alloc _ _).2 _ (Array.getElem?_eq_some_iff.1 h2).1]; exact h2) h3
      clear hr hv hN hl h2 h3
      go_enter Tryz.func152, Tryz.ntmps152
      go_wp2_with (first | (go_at_call 99; refine (hR _).mono ?_; rintro e w' ⟨rfl, rfl⟩))
      go_ret
      exact ⟨ret_bool HV.out, (G.refl _).alloc _⟩
    | some (some k), hp =>
      obtain ⟨r, es, c, i, rfl, h2, h3⟩ := hp
      have HV : Hid ((n == k) = calB s.data.toList n (some (some k))) := by show _ = _; unfold calB; rw [hr, Bool.eq_iff_iff]; simp
      generalize calB s.data.toList n (some (some k)) = R at *
      have hlk := look59f r i s k es c (w.alloc (.cells #[.map (some m), .map (some r)] 60)) (by rw [(Go.MapKept.heap_alloc _ _).2 _ (Array.getElem?_eq_some_iff.1 h2).1]; exact h2) h3
      clear hr hv hN hl h2 h3
      go_enter Tryz.func152, Tryz.ntmps152
      go_wp2_with (first | (go_at_call 99; refine (hR _).mono ?_; rintro e w' ⟨rfl, rfl⟩))
      go_ret
      exact ⟨ret_bool HV.out, (G.refl _).alloc _⟩
end
section
open Go.RowKit Go.Shelf
set_option maxHeartbeats 2000000
set_option maxRecDepth 20000
/-- Is it an operation's name? -/
def opB (l : List UInt8) : Bool := [[97, 100, 100], [115, 117, 98], [109, 117, 108], [109, 117, 108, 104], [100, 105, 118], [114, 101, 109], [97, 110, 100], [111, 114], [120, 111, 114], [115, 108, 108], [115, 114, 108], [115, 114, 97], [115, 108, 116], [115, 108, 116, 117]].contains l
theorem ba_ne' {s : ByteArray} {l : List UInt8} (h : s ≠ ⟨l.toArray⟩) : (s == ⟨l.toArray⟩) = false ∧ s.data.toList ≠ l := by
  constructor
  · cases e : (s == ⟨l.toArray⟩)
    · rfl
    · exact absurd ((Go.MapKept.bytes_beq _ _).1 e) h
  · intro t
    refine h ?_
    cases s with
    | mk d =>
      simp at t
      rw [← t]
theorem op_cases (s : ByteArray) : (opB s.data.toList = true ∧ ∃ i f, Instr.findNow .string (.string s) oes.toList 0 = some (some (i, .agg #[.func (.func f) #[] #[]]))) ∨ (opB s.data.toList = false ∧ Instr.findNow .string (.string s) oes.toList 0 = some none) := by
  by_cases h0 : s = ⟨#[97, 100, 100]⟩
  · subst h0
    exact .inl ⟨rfl, 0, 43, rfl⟩
  by_cases h1 : s = ⟨#[115, 117, 98]⟩
  · subst h1
    exact .inl ⟨rfl, 1, 44, rfl⟩
  by_cases h2 : s = ⟨#[109, 117, 108]⟩
  · subst h2
    exact .inl ⟨rfl, 2, 45, rfl⟩
  by_cases h3 : s = ⟨#[109, 117, 108, 104]⟩
  · subst h3
    exact .inl ⟨rfl, 3, 46, rfl⟩
  by_cases h4 : s = ⟨#[100, 105, 118]⟩
  · subst h4
    exact .inl ⟨rfl, 4, 47, rfl⟩
  by_cases h5 : s = ⟨#[114, 101, 109]⟩
  · subst h5
    exact .inl ⟨rfl, 5, 48, rfl⟩
  by_cases h6 : s = ⟨#[97, 110, 100]⟩
  · subst h6
    exact .inl ⟨rfl, 6, 49, rfl⟩
  by_cases h7 : s = ⟨#[111, 114]⟩
  · subst h7
    exact .inl ⟨rfl, 7, 50, rfl⟩
  by_cases h8 : s = ⟨#[120, 111, 114]⟩
  · subst h8
    exact .inl ⟨rfl, 8, 51, rfl⟩
  by_cases h9 : s = ⟨#[115, 108, 108]⟩
  · subst h9
    exact .inl ⟨rfl, 9, 52, rfl⟩
  by_cases h10 : s = ⟨#[115, 114, 108]⟩
  · subst h10
    exact .inl ⟨rfl, 10, 54, rfl⟩
  by_cases h11 : s = ⟨#[115, 114, 97]⟩
  · subst h11
    exact .inl ⟨rfl, 11, 55, rfl⟩
  by_cases h12 : s = ⟨#[115, 108, 116]⟩
  · subst h12
    exact .inl ⟨rfl, 12, 56, rfl⟩
  by_cases h13 : s = ⟨#[115, 108, 116, 117]⟩
  · subst h13
    exact .inl ⟨rfl, 13, 58, rfl⟩
  obtain ⟨p0, q0⟩ := ba_ne' (l := [97, 100, 100]) h0
  obtain ⟨p1, q1⟩ := ba_ne' (l := [115, 117, 98]) h1
  obtain ⟨p2, q2⟩ := ba_ne' (l := [109, 117, 108]) h2
  obtain ⟨p3, q3⟩ := ba_ne' (l := [109, 117, 108, 104]) h3
  obtain ⟨p4, q4⟩ := ba_ne' (l := [100, 105, 118]) h4
  obtain ⟨p5, q5⟩ := ba_ne' (l := [114, 101, 109]) h5
  obtain ⟨p6, q6⟩ := ba_ne' (l := [97, 110, 100]) h6
  obtain ⟨p7, q7⟩ := ba_ne' (l := [111, 114]) h7
  obtain ⟨p8, q8⟩ := ba_ne' (l := [120, 111, 114]) h8
  obtain ⟨p9, q9⟩ := ba_ne' (l := [115, 108, 108]) h9
  obtain ⟨p10, q10⟩ := ba_ne' (l := [115, 114, 108]) h10
  obtain ⟨p11, q11⟩ := ba_ne' (l := [115, 114, 97]) h11
  obtain ⟨p12, q12⟩ := ba_ne' (l := [115, 108, 116]) h12
  obtain ⟨p13, q13⟩ := ba_ne' (l := [115, 108, 116, 117]) h13
  refine .inr ⟨?_, ?_⟩
  · unfold opB
    simp [q0, q1, q2, q3, q4, q5, q6, q7, q8, q9, q10, q11, q12, q13]
  · unfold oes
    simp only [Instr.findNow, Instr.sameNow, en]
    rw [p0, p1, p2, p3, p4, p5, p6, p7, p8, p9, p10, p11, p12, p13]
theorem look30f (W : World) (r i : Nat) (s : ByteArray) (v : Value) (hr : W.heap[r]? = some (.map oes 14)) (hf : Instr.findNow .string (.string s) oes.toList 0 = some (some (i, v))) : (Instr.lookup 56 (.map (some r)) (.string s) true).run Tryz.prog W = .ok (.tuple #[v, .bool true]) W := by
  unfold Instr.lookup
  simp [Sem.run_bind, run_underlying und30, run_getObj_map W r oes 14 hr, check9, Go.MapKept.run_findKey Tryz.underlying9 hf]
theorem look30z (W : World) (r : Nat) (s : ByteArray) (hr : W.heap[r]? = some (.map oes 14)) (hf : Instr.findNow .string (.string s) oes.toList 0 = some none) : (Instr.lookup 56 (.map (some r)) (.string s) true).run Tryz.prog W = .ok (.tuple #[.agg #[.nilFunc], .bool false]) W := by
  unfold Instr.lookup
  simp [Sem.run_bind, run_underlying und30, run_getObj_map W r oes 14 hr, check9, Go.MapKept.run_findKey Tryz.underlying9 hf]
/-- Are an instruction's name and arguments right? -/
def nanB (op : Int) (l : List UInt8) (n : Nat) (fd : Option (Option Int)) : Bool := if op = 7 then calB l n fd else if op = 3 then opB l && decide (n = 0) else l.isEmpty && decide (n = 0)
theorem ba_empty (s : ByteArray) : s.toList.isEmpty = s.data.toList.isEmpty := by rw [ByteArray.toList_eq]
theorem nameAndArgs67 (m : Nat) (pv : Value) (i : Ins) (fd : Option (Option Int)) (w : World) (hs : i.nm.size ≤ maxLen) (hm : w.heap[m]? = some (.map oes 14)) (hp : PmA w pv i.nm fd) : Calls Tryz.prog 128 #[.agg #[.map (some m), pv], inV i] w fun e w' => e = .returned (.bool (nanB i.op i.nm.data.toList i.gs.length fd)) ∧ G w w' := by
  have HC : Hid (∀ W, G w W → Calls Tryz.prog 152 #[.agg #[.map (some m), pv], .string i.nm, .int .i64 (i.gs.length : Nat)] W fun e w' => e = .returned (.bool (calB i.nm.data.toList i.gs.length fd)) ∧ G W w') := fun W hW => callee74 m pv i.nm _ fd W hs (hp.g hW.below)
  have ho : ∃ o, pv = .map o := by
    match fd, hp with
    | none, hp => exact ⟨none, hp⟩
    | some none, ⟨r, _, _, h, _⟩ => exact ⟨some r, h⟩
    | some (some _), ⟨r, _, _, _, h, _⟩ => exact ⟨some r, h⟩
  obtain ⟨po, rfl⟩ := ho
  clear hp hs
  unfold inV
  have HVd : Hid (∀ R, R = nanB i.op i.nm.data.toList i.gs.length fd → nanB i.op i.nm.data.toList i.gs.length fd = R) := fun R h => h.symm
  by_cases h7 : i.op = 7
  · have HV : Hid (calB i.nm.data.toList i.gs.length fd = nanB i.op i.nm.data.toList i.gs.length fd) := by show _ = _; unfold nanB; rw [if_pos h7]
    generalize nanB i.op i.nm.data.toList i.gs.length fd = R at *
    rw [h7]
    clear h7 HVd
    generalize i.gs.length = al at *
    go_enter Tryz.func128, Tryz.ntmps128
    go_wp2_with (first | (go_at_call 152; refine (HC.out _ (((G.refl _).alloc _).alloc _)).mono ?_; rintro e w1 ⟨rfl, hg⟩))
    go_ret
    exact ⟨ret_bool HV.out, (((G.refl _).alloc _).alloc _).trans hg⟩
  have e7 : (i.op == 7) = false := by simp; omega
  clear HC HVd
  by_cases h3 : i.op = 3
  · have HV : Hid (nanB i.op i.nm.data.toList i.gs.length fd = (opB i.nm.data.toList && decide (i.gs.length = 0))) := by show _ = _; unfold nanB; rw [if_neg h7, if_pos h3]
    generalize nanB i.op i.nm.data.toList i.gs.length fd = R at *
    rw [h3]
    clear h7 e7 h3
    generalize i.gs.length = al at *
    have hW : ((w.alloc (.cells #[.map (some m), .map po] 60)).alloc (.cells #[.int .i64 3, .int .i64 i.d, .int .i64 i.a, .int .i64 i.b, .int .i64 i.n, .string i.nm, .slice i.ar al i.ac, .int .i64 i.to, .int .i64 i.el] 54)).heap[m]? = some (.map oes 14) := by
      have hml := (Array.getElem?_eq_some_iff.1 hm).1
      rw [(Go.MapKept.heap_alloc _ _).2 _ (by simp; omega), (Go.MapKept.heap_alloc _ _).2 _ hml]
      exact hm
    rcases op_cases i.nm with ⟨h1, j, fn, h2⟩ | ⟨h1, h2⟩
    · have hl := look30f _ m j i.nm _ hW h2
      have HE : Hid (((al : Int) == 0) = R) := by show _ = _; rw [HV.out, h1, Bool.eq_iff_iff]; simp
      clear hW h1 h2 hm
      go_enter Tryz.func128, Tryz.ntmps128
      go_wp2
      go_ret
      exact ⟨ret_bool HE.out, (((G.refl _).alloc _).alloc _).alloc _⟩
    · have hl := look30z _ m i.nm hW h2
      have HE : Hid (false = R) := by show _ = _; rw [HV.out, h1]; rfl
      clear hW h1 h2 hm
      go_enter Tryz.func128, Tryz.ntmps128
      go_wp2
      go_ret
      exact ⟨ret_bool HE.out, (((G.refl _).alloc _).alloc _).alloc _⟩
  have e3 : (i.op == 3) = false := by simp; omega
  have HV : Hid (nanB i.op i.nm.data.toList i.gs.length fd = (i.nm.data.toList.isEmpty && decide (i.gs.length = 0))) := by show _ = _; unfold nanB; rw [if_neg h7, if_neg h3]
  generalize nanB i.op i.nm.data.toList i.gs.length fd = R at *
  have hbe := ba_empty i.nm
  clear h7 h3 hm
  generalize i.gs.length = al at *
  cases hb : i.nm.data.toList.isEmpty with
  | true =>
    have HE : Hid (((al : Int) == 0) = R) := by show _ = _; rw [HV.out, hb, Bool.eq_iff_iff]; simp
    rw [hb] at hbe
    clear hb
    go_enter Tryz.func128, Tryz.ntmps128
    go_wp2
    go_ret
    exact ⟨ret_bool HE.out, ((G.refl _).alloc _).alloc _⟩
  | false =>
    have HE : Hid (false = R) := by show _ = _; rw [HV.out, hb]; rfl
    rw [hb] at hbe
    clear hb
    go_enter Tryz.func128, Tryz.ntmps128
    go_wp2
    go_ret
    exact ⟨ret_bool HE.out, ((G.refl _).alloc _).alloc _⟩
end
section
open Go.RowKit Go.Shelf
/-- The arguments, as they lie. -/
def ArA (W : World) (ar : Option Addr) (ac : Nat) (l : List Int) : Prop := l.length ≤ ac ∧ ac ≤ 9223372036854775807 ∧ (0 < l.length → ∃ g o, ar = some ⟨g, o, none⟩ ∧ ∀ (j : Nat) (y : Int), l[j]? = some y → W.cell? ⟨g, o + j, none⟩ = some (.int .i64 y))
theorem ArA.below {W W' : World} {ar : Option Addr} {ac : Nat} {l : List Int} (h : ArA W ar ac l) (hb : Below W.heap.size W W') : ArA W' ar ac l := by
  refine ⟨h.1, h.2.1, fun hl => ?_⟩
  obtain ⟨g, o, e, hc⟩ := h.2.2 hl
  exact ⟨g, o, e, fun j y hj => by rw [hb.cell (p := ⟨g, o + j, none⟩) (World.block_lt_of_cell? _ _ (hc j y hj))]; exact hc j y hj⟩
/-- What lies in the world in which an instruction is looked at. -/
theorem insAll (w : World) (f : Fnh) (i : Ins) (k m : Nat) (po : Option Nat) (F : ByteArray) (al : Nat) : ∃ W, (((w.alloc (.cells #[.map (some m), .map po] 60)).alloc (.cells #[.string f.nm, .int .i64 f.pa, .int .i64 f.rg, .int .i64 f.fr, .slice f.ba f.bl f.bc] 27)).alloc (.cells #[.int .i64 k, .int .i64 i.d, .int .i64 i.a, .int .i64 i.b, .int .i64 i.n, .string i.nm, .slice i.ar al i.ac, .int .i64 i.to, .int .i64 i.el] 54)).alloc (.cells #[.string F] 9) = W ∧ Hid (G w W) ∧ (∀ n os, (Go.Sort.grow (W.drewN n) os).cell? ⟨w.heap.size, 0, none⟩ = some (.map (some m))) ∧ (∀ n os, (Go.Sort.grow (W.drewN n) os).cell? ⟨w.heap.size, 1, none⟩ = some (.map po)) ∧ (∀ n os, (Go.Sort.grow (W.drewN n) os).cell? ⟨w.heap.size + 1, 0, none⟩ = some (.string f.nm)) ∧ (∀ n os, (Go.Sort.grow (W.drewN n) os).cell? ⟨w.heap.size + 1, 1, none⟩ = some (.int .i64 f.pa)) ∧ (∀ n os, (Go.Sort.grow (W.drewN n) os).cell? ⟨w.heap.size + 1, 2, none⟩ = some (.int .i64 f.rg)) ∧ (∀ n os, (Go.Sort.grow (W.drewN n) os).cell? ⟨w.heap.size + 1, 3, none⟩ = some (.int .i64 f.fr)) ∧ (∀ n os, (Go.Sort.grow (W.drewN n) os).cell? ⟨w.heap.size + 1, 4, none⟩ = some (.slice f.ba f.bl f.bc)) ∧ (∀ n os, (Go.Sort.grow (W.drewN n) os).cell? ⟨w.heap.size + 1 + 1, 0, none⟩ = some (.int .i64 k)) ∧ (∀ n os, (Go.Sort.grow (W.drewN n) os).cell? ⟨w.heap.size + 1 + 1, 1, none⟩ = some (.int .i64 i.d)) ∧ (∀ n os, (Go.Sort.grow (W.drewN n) os).cell? ⟨w.heap.size + 1 + 1, 2, none⟩ = some (.int .i64 i.a)) ∧ (∀ n os, (Go.Sort.grow (W.drewN n) os).cell? ⟨w.heap.size + 1 + 1, 3, none⟩ = some (.int .i64 i.b)) ∧ (∀ n os, (Go.Sort.grow (W.drewN n) os).cell? ⟨w.heap.size + 1 + 1, 4, none⟩ = some (.int .i64 i.n)) ∧ (∀ n os, (Go.Sort.grow (W.drewN n) os).cell? ⟨w.heap.size + 1 + 1, 5, none⟩ = some (.string i.nm)) ∧ (∀ n os, (Go.Sort.grow (W.drewN n) os).cell? ⟨w.heap.size + 1 + 1, 6, none⟩ = some (.slice i.ar al i.ac)) ∧ (∀ n os, (Go.Sort.grow (W.drewN n) os).cell? ⟨w.heap.size + 1 + 1, 7, none⟩ = some (.int .i64 i.to)) ∧ (∀ n os, (Go.Sort.grow (W.drewN n) os).cell? ⟨w.heap.size + 1 + 1, 8, none⟩ = some (.int .i64 i.el)) ∧ (∀ n os, (Go.Sort.grow (W.drewN n) os).cell? ⟨w.heap.size + 1 + 1 + 1, 0, none⟩ = some (.string F)) := by
  refine ⟨_, rfl, ((((G.refl _).alloc _).alloc _).alloc _ |>.alloc _), ?_⟩
  refine ⟨?_, ?_, ?_, ?_, ?_, ?_, ?_, ?_, ?_, ?_, ?_, ?_, ?_, ?_, ?_, ?_, ?_⟩
  all_goals exact gcell (by first | (simp; done) | (simp; omega)) (by go_simp)
theorem insBelow (w : World) (f : Fnh) (i : Ins) (k m : Nat) (po : Option Nat) (F : ByteArray) (al : Nat) : Hid (Below w.heap.size w ((((w.alloc (.cells #[.map (some m), .map po] 60)).alloc (.cells #[.string f.nm, .int .i64 f.pa, .int .i64 f.rg, .int .i64 f.fr, .slice f.ba f.bl f.bc] 27)).alloc (.cells #[.int .i64 k, .int .i64 i.d, .int .i64 i.a, .int .i64 i.b, .int .i64 i.n, .string i.nm, .slice i.ar al i.ac, .int .i64 i.to, .int .i64 i.el] 54)).alloc (.cells #[.string F] 9))) := ((((G.refl _).alloc _).alloc _).alloc _ |>.alloc _).below
theorem insF2 (w : World) (f : Fnh) (i : Ins) (k m : Nat) (po : Option Nat) (F : ByteArray) (al : Nat) : ((((w.alloc (.cells #[.map (some m), .map po] 60)).alloc (.cells #[.string f.nm, .int .i64 f.pa, .int .i64 f.rg, .int .i64 f.fr, .slice f.ba f.bl f.bc] 27)).alloc (.cells #[.int .i64 k, .int .i64 i.d, .int .i64 i.a, .int .i64 i.b, .int .i64 i.n, .string i.nm, .slice i.ar al i.ac, .int .i64 i.to, .int .i64 i.el] 54)).alloc (.cells #[.string F] 9)).cell? ⟨w.heap.size + 1, 2, none⟩ = some (.int .i64 f.rg) := by go_simp
theorem has63G (F : ByteArray) (c : UInt8) {b : Nat} {W : World} (q : ∀ n os, (Go.Sort.grow (W.drewN n) os).cell? ⟨b, 0, none⟩ = some (.string F)) : ∀ n os, Calls Tryz.prog 124 #[.string ⟨#[c]⟩, .pointer (some ⟨b, 0, none⟩)] (Go.Sort.grow (W.drewN n) os) fun e w2 => e = .returned (.bool (hsB F c)) ∧ ∃ p : GrownBy, w2 = Go.Sort.grow (W.drewN p.n) p.os := fun n os => G.same (has63 F c _ _ (q n os))
theorem belG {a : Int} {h : Bool} {c : Int} {r : Bool} (x : belB a h c = r) (W : World) : ∀ n os, Calls Tryz.prog 126 #[.int .i64 a, .bool h, .int .i64 c] (Go.Sort.grow (W.drewN n) os) fun e w2 => e = .returned (.bool r) ∧ ∃ p : GrownBy, w2 = Go.Sort.grow (W.drewN p.n) p.os := fun n os => by
  have t := below65 a h c (Go.Sort.grow (W.drewN n) os)
  rw [x] at t
  exact G.same t
theorem belT {a : Int} {h : Bool} {c : Int} {r : Bool} (x : belB a h c = r) : ∀ W : World, Calls Tryz.prog 126 #[.int .i64 a, .bool h, .int .i64 c] W fun e w' => e = .returned (.bool r) ∧ w' = W := fun W => by
  have t := below65 a h c W
  rw [x] at t
  exact t
end
end Go.Proofs.YtdppoblbenbafaaGreatDoor
