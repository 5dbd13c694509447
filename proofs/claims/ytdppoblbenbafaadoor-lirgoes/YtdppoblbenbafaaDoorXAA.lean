/- The little functions of lir's check. The runtime's functions, and what an instruction has. Worlds that have drawn, and in which blocks were laid behind. Names, the runtime's functions, and what a field is asked for. -/
import Derived.Test.YtdppoblbenbafaaDoorProg
import Derived.Test.YtdppoblbenbafaaDoorShelf
import Derived.WalkKit
import Derived.WalkSpells
import Derived.WalkLawsBesides
import Derived.LoopTactic
import Derived.Deep.QuietTactic
import Derived.WalkSmall
import Derived.Shelf.Abstract
import Derived.Shelf.RegionOpen
import Derived.Deep.RegionWith
import Derived.RegionTactic
import Derived.Laws.OwnMore
import Derived.Lib.SliceRun
import Derived.BigQuiet
import Derived.Shelf.SlSortCmp.QuietGrown
import Derived.Handy
namespace Go.Proofs.YtdppoblbenbafaaDoor
section
open Go.RowKit Go.Shelf
theorem bcell {W w1 : World} (hb : Below W.heap.size W w1) : (∀ b o, b < W.heap.size → w1.cell? ⟨b, o, none⟩ = W.cell? ⟨b, o, none⟩) ∧ (∀ b o, b < W.heap.size → w1.frozen? ⟨b, o, none⟩ = W.frozen? ⟨b, o, none⟩) :=
  ⟨fun b o h => hb.cell (p := ⟨b, o, none⟩) h, fun b o h => hb.frozen (p := ⟨b, o, none⟩) h⟩
theorem ret_bool {a b : Bool} (h : a = b) : Ending.returned (.bool a) = .returned (.bool b) := by rw [h]
theorem ret_int {k : IntKind} {a b : Int} (h : a = b) : Ending.returned (.int k a) = .returned (.int k b) := by rw [h]
def dgB (c : Nat) : Bool := decide (48 ≤ c) && decide (c ≤ 57)
def ltB (c : Nat) : Bool := (decide (97 ≤ c) && decide (c ≤ 122)) || (decide (65 ≤ c) && decide (c ≤ 90))
def witB (n a b : Int) : Bool := decide (a ≤ n) && decide (n ≤ b)
def belB (n : Int) (h : Bool) (e : Int) : Bool := if h then decide (0 ≤ n) && decide (n < e) else decide (n = 0)
def endB (op : Int) : Bool := decide (8 ≤ op) && decide (op ≤ 11)
set_option maxHeartbeats 1000000 in
theorem isDigit56 (c : Nat) (w : World) : Calls Tryd.prog 59 #[.int .u8 (c : Int)] w fun e w' => e = .returned (.bool (dgB c)) ∧ w' = w := by
  go_enter Tryd.func59, Tryd.ntmps59
  go_wp2
  all_goals go_ret
  all_goals exact ⟨ret_bool (by rw [Bool.eq_iff_iff]; simp [dgB]; omega), rfl⟩
set_option maxHeartbeats 1000000 in
theorem isLetter57 (c : Nat) (w : World) : Calls Tryd.prog 60 #[.int .u8 (c : Int)] w fun e w' => e = .returned (.bool (ltB c)) ∧ w' = w := by
  go_enter Tryd.func60, Tryd.ntmps60
  go_wp2
  all_goals go_ret
  all_goals exact ⟨ret_bool (by rw [Bool.eq_iff_iff]; simp [ltB]; omega), rfl⟩
set_option maxHeartbeats 1000000 in
theorem isEnd58 (c : Int) (w : World) : Calls Tryd.prog 61 #[.int .i64 c] w fun e w' => e = .returned (.bool (endB c)) ∧ w' = w := by
  go_enter Tryd.func61, Tryd.ntmps61
  go_wp2
  all_goals go_ret
  all_goals exact ⟨ret_bool (by rw [Bool.eq_iff_iff]; simp [endB]; omega), rfl⟩
set_option maxHeartbeats 1000000 in
theorem within47 (n a b : Int) (w : World) : Calls Tryd.prog 48 #[.int .i64 n, .int .i64 a, .int .i64 b] w fun e w' => e = .returned (.bool (witB n a b)) ∧ w' = w := by
  go_enter Tryd.func48, Tryd.ntmps48
  go_wp2
  all_goals go_ret
  all_goals exact ⟨ret_bool (by rw [Bool.eq_iff_iff]; simp [witB]; omega), rfl⟩
set_option maxHeartbeats 1000000 in
theorem below65 (n : Int) (h : Bool) (b : Int) (w : World) : Calls Tryd.prog 68 #[.int .i64 n, .bool h, .int .i64 b] w fun e w' => e = .returned (.bool (belB n h b)) ∧ w' = w := by
  cases h
  all_goals
    go_enter Tryd.func68, Tryd.ntmps68
    go_wp2
    all_goals go_ret
    all_goals exact ⟨ret_bool (by rw [Bool.eq_iff_iff]; simp [belB]; try omega), rfl⟩
def hasB (s : ByteArray) (c : UInt8) : Bool := s.data.toList.contains c
end
section
open Go.RowKit Go.Shelf
set_option maxHeartbeats 1000000 in
theorem rta_print (w : World) : Calls Tryd.prog 42 #[.string ⟨#[114, 116, 46, 112, 114, 105, 110, 116]⟩] w fun e w' => e = .returned (.tuple #[.int .i64 1, .bool true]) ∧ w' = w := by
  go_enter Tryd.func42, Tryd.ntmps42
  go_wp2
  go_ret2
  exact ⟨rfl, rfl⟩
def hsB (F : ByteArray) (c : UInt8) : Bool := decide (0 ≤ Lib.indexByte F.data.toList c)
set_option maxHeartbeats 1000000 in
theorem has63 (F : ByteArray) (c : UInt8) (b : Nat) (w : World) (h : w.cell? ⟨b, 0, none⟩ = some (.string F)) : Calls Tryd.prog 66 #[.string ⟨#[c]⟩, .pointer (some ⟨b, 0, none⟩)] w fun e w' => e = .returned (.bool (hsB F c)) ∧ w' = w := by
  have hC : ∀ w : World, Calls Tryd.prog 67 #[.string F, .string ⟨#[c]⟩] w fun e w' => e = .returned (.bool (hsB F c)) ∧ w' = w := fun w => Tryd.strings_Contains_one F c w
  go_enter Tryd.func66, Tryd.ntmps66
  go_wp2_with (first | (go_at_call 67; refine (hC _).mono ?_; rintro e w' ⟨rfl, rfl⟩))
  go_ret
  exact ⟨rfl, rfl⟩
/-- A function, and an instruction, as they are handed on. -/
def fnV (nm : ByteArray) (pa rg fr : Int) (bl : Value) : Value := .agg #[.string nm, .int .i64 pa, .int .i64 rg, .int .i64 fr, bl]
set_option maxHeartbeats 1000000 in
theorem callee_print (m1 m2 : Value) (w : World) : Calls Tryd.prog 77 #[.agg #[m1, m2], .string ⟨#[114, 116, 46, 112, 114, 105, 110, 116]⟩, .int .i64 1] w fun e w' => e = .returned (.bool true) ∧ Below w.heap.size w w' := by
  go_enter Tryd.func77, Tryd.ntmps77
  go_wp2_with (first | (go_at_call 42; refine (rta_print _).mono ?_; rintro e w' ⟨rfl, rfl⟩))
  go_ret
  exact ⟨rfl, (Below.refl _ _).alloc (Nat.le_refl _) _⟩
end
section
open Go.RowKit Go.Shelf
/-- The world has drawn some times, and has blocks more. -/
def G (w w' : World) : Prop := ∃ q os, w' = Go.Sort.grow (w.drewN q) os
theorem G.refl (w : World) : G w w := ⟨0, #[], by simp; rfl⟩
theorem G.alloc {w w' : World} (h : G w w') (o : Obj) : G w (w'.alloc o) := by
  obtain ⟨q, os, rfl⟩ := h
  exact ⟨q, os ++ #[o], by rw [Go.Sort.alloc_eq_grow, Go.Sort.grow_grow]⟩
theorem G.trans {a b c : World} (h : G a b) (h' : G b c) : G a c := by
  obtain ⟨q, os, rfl⟩ := h
  obtain ⟨q', os', rfl⟩ := h'
  exact ⟨q + q', os ++ os', by show Go.Sort.grow (Go.Sort.grow ((a.drewN q).drewN q') os) os' = _; rw [Go.Sort.grow_grow, World.drewN_drewN]⟩
theorem G.below {w w' : World} (h : G w w') : Below w.heap.size w w' := by
  obtain ⟨q, os, rfl⟩ := h
  refine ⟨rfl, rfl, rfl, by simp, fun i hi => ?_⟩
  show ((w.drewN q).heap ++ os)[i]? = _
  rw [Array.getElem?_append_left (by exact hi)]
  rfl
theorem G.to {P : Program} {f : FuncId} {args : Array Value} {w : World} {n : Nat} {os : Array Obj} {v : Value} (h : Calls P f args (Go.Sort.grow (w.drewN n) os) fun e w' => e = .returned v ∧ G (Go.Sort.grow (w.drewN n) os) w') : Calls P f args (Go.Sort.grow (w.drewN n) os) fun e w'' => e = .returned v ∧ ∃ p : GrownBy, w'' = Go.Sort.grow (w.drewN p.n) p.os := Calls.grown_of h
theorem G.same {P : Program} {f : FuncId} {args : Array Value} {w : World} {n : Nat} {os : Array Obj} {v : Value} (h : Calls P f args (Go.Sort.grow (w.drewN n) os) fun e w' => e = .returned v ∧ w' = Go.Sort.grow (w.drewN n) os) : Calls P f args (Go.Sort.grow (w.drewN n) os) fun e w'' => e = .returned v ∧ ∃ p : GrownBy, w'' = Go.Sort.grow (w.drewN p.n) p.os :=
  h.mono fun _ _ ⟨he, hw⟩ => ⟨he, ⟨n, os⟩, hw⟩
theorem gcell {W : World} {b o : Nat} {v : Value} (hb : b < W.heap.size) (h : W.cell? ⟨b, o, none⟩ = some v) : ∀ n os, (Go.Sort.grow (W.drewN n) os).cell? ⟨b, o, none⟩ = some v := fun n os => cell_grown (a := ⟨b, o, none⟩) hb h n os
end
section
open Go.RowKit Go.Shelf
def okc (c : UInt8) : Bool := dgB c.toNat || (ltB c.toNat || decide (c.toNat = 95))
/-- May a function have this name? -/
def nmB (l : List UInt8) : Bool := decide (1 ≤ l.length) && (decide (l.length ≤ 64) && (!(dgB (l.getD 0 0).toNat) && l.all okc))
theorem take_snoc (s : ByteArray) (k : Nat) (h : k < s.size) : s.data.toList.take (k + 1) = s.data.toList.take k ++ [s[k]] := by
  rw [List.take_succ_eq_append_getElem (by simpa using h)]; rfl
theorem get_ba (s : ByteArray) (k : Nat) (h : k < s.size) : s.data.toList.getD k 0 = s[k] := by
  rw [List.getD_eq_getElem?_getD, List.getElem?_eq_getElem (by simpa using h)]; rfl
set_option maxHeartbeats 2000000 in
theorem nameRight46 (s : ByteArray) (w : World) (hs : s.size ≤ maxLen) : Calls Tryd.prog 47 #[.string s] w fun e w' => e = .returned (.bool (nmB s.data.toList)) ∧ w' = w := by
  unfold maxLen at hs
  have hL : Hid (s.data.toList.length = s.size) := by show _ = _; simp
  by_cases h1 : 1 ≤ s.size
  · by_cases h2 : s.size ≤ 64
    · have h0 : 0 < s.size := h1
      have HG : Hid (s.data.toList.getD 0 0 = s[0]) := get_ba s 0 h0
      have hw : witB (s.size : Int) 1 64 = true := by simp [witB]; omega
      have hW : ∀ w : World, Calls Tryd.prog 48 #[.int .i64 (s.size : Int), .int .i64 1, .int .i64 64] w fun e w' => e = .returned (.bool true) ∧ w' = w := fun w => by
        have t := within47 (s.size : Int) 1 64 w
        rw [hw] at t
        exact t
      clear hw
      by_cases h3 : dgB (s[0].toNat) = true
      · have hD : ∀ w : World, Calls Tryd.prog 59 #[.int .u8 (s[0].toNat : Int)] w fun e w' => e = .returned (.bool true) ∧ w' = w := fun w => by
          have t := isDigit56 s[0].toNat w
          rw [h3] at t
          exact t
        have HR : Hid (nmB s.data.toList = false) := by show _ = _; simp only [nmB]; rw [HG.out, h3]; simp
        clear h3
        go_enter Tryd.func47, Tryd.ntmps47
        go_wp2_with (first | (go_at_call 48; refine (hW _).mono ?_; rintro e w' ⟨rfl, rfl⟩) | (go_at_call 59; refine (hD _).mono ?_; rintro e w' ⟨rfl, rfl⟩))
        go_ret
        exact ⟨ret_bool HR.out.symm, rfl⟩
      · have h3' : dgB (s[0].toNat) = false := by simpa using h3
        have hD : ∀ w : World, Calls Tryd.prog 59 #[.int .u8 (s[0].toNat : Int)] w fun e w' => e = .returned (.bool false) ∧ w' = w := fun w => by
          have t := isDigit56 s[0].toNat w
          rw [h3'] at t
          exact t
        have HR : Hid (nmB s.data.toList = s.data.toList.all okc) := by
          show _ = _
          simp only [nmB]
          rw [HG.out, h3', hL.out]
          simp [h1, h2]
        clear h3 h3'
        go_enter Tryd.func47, Tryd.ntmps47
        go_wp2_with (first | (go_at_call 48; refine (hW _).mono ?_; rintro e w' ⟨rfl, rfl⟩) | (go_at_call 59; refine (hD _).mono ?_; rintro e w' ⟨rfl, rfl⟩))
        clear hD
        go_loop [16] (fun i => ∃ k : Nat, k ≤ s.size ∧ i = .int .i64 k ∧ (s.data.toList.take k).all okc = true) (fun i => s.size - (intOf i).toNat)
        case atStart => exact ⟨0, Nat.zero_le _, rfl, rfl⟩
        case round =>
          obtain ⟨k, hk, rfl, ha⟩ := hrel
          have HA : Hid ((s.data.toList.take k).all okc = true) := ha
          clear ha
          by_cases hlt : k < s.size
          · have HT : Hid (s.data.toList.take (k + 1) = s.data.toList.take k ++ [s[k]]) := take_snoc s k hlt
            by_cases hd : okc s[k] = true
            · have HK : Hid (okc s[k] = true) := hd
              have ho : dgB s[k].toNat = true ∨ (dgB s[k].toNat = false ∧ ltB s[k].toNat = true) ∨ (dgB s[k].toNat = false ∧ ltB s[k].toNat = false ∧ s[k].toNat = 95) := by
                unfold okc at hd
                cases h : dgB s[k].toNat <;> cases h' : ltB s[k].toNat <;> simp_all
              clear hd
              rcases ho with h | ⟨h, h'⟩ | ⟨h, h', h''⟩
              · have hD : ∀ w : World, Calls Tryd.prog 59 #[.int .u8 (s[k].toNat : Int)] w fun e w' => e = .returned (.bool true) ∧ w' = w := fun w => by
                  have t := isDigit56 s[k].toNat w
                  rw [h] at t
                  exact t
                clear h
                go_wp2_with (first | (go_at_call 59; refine (hD _).mono ?_; rintro e w' ⟨rfl, rfl⟩))
                go_round
                case rel => exact ⟨k + 1, by omega, by go_num, by rw [HT.out, List.all_append, HA.out]; simp [HK.out]⟩
                case measure => simp [intOf]; omega
              · have hD : ∀ w : World, Calls Tryd.prog 59 #[.int .u8 (s[k].toNat : Int)] w fun e w' => e = .returned (.bool false) ∧ w' = w := fun w => by
                  have t := isDigit56 s[k].toNat w
                  rw [h] at t
                  exact t
                have hE : ∀ w : World, Calls Tryd.prog 60 #[.int .u8 (s[k].toNat : Int)] w fun e w' => e = .returned (.bool true) ∧ w' = w := fun w => by
                  have t := isLetter57 s[k].toNat w
                  rw [h'] at t
                  exact t
                clear h h'
                go_wp2_with (first | (go_at_call 59; refine (hD _).mono ?_; rintro e w' ⟨rfl, rfl⟩) | (go_at_call 60; refine (hE _).mono ?_; rintro e w' ⟨rfl, rfl⟩))
                go_round
                case rel => exact ⟨k + 1, by omega, by go_num, by rw [HT.out, List.all_append, HA.out]; simp [HK.out]⟩
                case measure => simp [intOf]; omega
              · have hD : ∀ w : World, Calls Tryd.prog 59 #[.int .u8 (s[k].toNat : Int)] w fun e w' => e = .returned (.bool false) ∧ w' = w := fun w => by
                  have t := isDigit56 s[k].toNat w
                  rw [h] at t
                  exact t
                have hE : ∀ w : World, Calls Tryd.prog 60 #[.int .u8 (s[k].toNat : Int)] w fun e w' => e = .returned (.bool false) ∧ w' = w := fun w => by
                  have t := isLetter57 s[k].toNat w
                  rw [h'] at t
                  exact t
                have hq : ((s[k].toNat : Int) == 95) = true := by simp; omega
                clear h h' h''
                go_wp2_with (first | (go_at_call 59; refine (hD _).mono ?_; rintro e w' ⟨rfl, rfl⟩) | (go_at_call 60; refine (hE _).mono ?_; rintro e w' ⟨rfl, rfl⟩))
                go_round
                case rel => exact ⟨k + 1, by omega, by go_num, by rw [HT.out, List.all_append, HA.out]; simp [HK.out]⟩
                case measure => simp [intOf]; omega
            · have hd' : okc s[k] = false := by simpa using hd
              have HF : Hid (s.data.toList.all okc = false) := by
                show _ = _
                rw [List.all_eq_false]
                exact ⟨s[k], Array.getElem_mem_toList _, by rw [hd']; simp⟩
              have ho : dgB s[k].toNat = false ∧ ltB s[k].toNat = false ∧ ¬ s[k].toNat = 95 := by
                unfold okc at hd'
                cases h : dgB s[k].toNat <;> cases h' : ltB s[k].toNat <;> simp_all
              obtain ⟨h, h', h''⟩ := ho
              have hD : ∀ w : World, Calls Tryd.prog 59 #[.int .u8 (s[k].toNat : Int)] w fun e w' => e = .returned (.bool false) ∧ w' = w := fun w => by
                have t := isDigit56 s[k].toNat w
                rw [h] at t
                exact t
              have hE : ∀ w : World, Calls Tryd.prog 60 #[.int .u8 (s[k].toNat : Int)] w fun e w' => e = .returned (.bool false) ∧ w' = w := fun w => by
                have t := isLetter57 s[k].toNat w
                rw [h'] at t
                exact t
              have hq : ((s[k].toNat : Int) == 95) = false := by simp; omega
              clear h h' h'' hd hd'
              go_wp2_with (first | (go_at_call 59; refine (hD _).mono ?_; rintro e w' ⟨rfl, rfl⟩) | (go_at_call 60; refine (hE _).mono ?_; rintro e w' ⟨rfl, rfl⟩))
              go_ret
              exact ⟨ret_bool (by rw [HR.out, HF.out]), rfl⟩
          · go_wp2
            go_ret
            exact ⟨ret_bool (by rw [HR.out, ← HA.out, List.take_of_length_le (by rw [hL.out]; omega)]), rfl⟩
    · have hw : witB (s.size : Int) 1 64 = false := by simp [witB]; omega
      have hW : ∀ w : World, Calls Tryd.prog 48 #[.int .i64 (s.size : Int), .int .i64 1, .int .i64 64] w fun e w' => e = .returned (.bool false) ∧ w' = w := fun w => by
        have t := within47 (s.size : Int) 1 64 w
        rw [hw] at t
        exact t
      have HR : Hid (nmB s.data.toList = false) := by show _ = _; simp only [nmB]; rw [hL.out]; simp [h2]
      clear hw
      go_enter Tryd.func47, Tryd.ntmps47
      go_wp2_with (first | (go_at_call 48; refine (hW _).mono ?_; rintro e w' ⟨rfl, rfl⟩))
      go_ret
      exact ⟨ret_bool HR.out.symm, rfl⟩
  · have hw : witB (s.size : Int) 1 64 = false := by simp [witB]; omega
    have hW : ∀ w : World, Calls Tryd.prog 48 #[.int .i64 (s.size : Int), .int .i64 1, .int .i64 64] w fun e w' => e = .returned (.bool false) ∧ w' = w := fun w => by
      have t := within47 (s.size : Int) 1 64 w
      rw [hw] at t
      exact t
    have HR : Hid (nmB s.data.toList = false) := by show _ = _; simp only [nmB]; rw [hL.out]; simp [h1]
    clear hw
    go_enter Tryd.func47, Tryd.ntmps47
    go_wp2_with (first | (go_at_call 48; refine (hW _).mono ?_; rintro e w' ⟨rfl, rfl⟩))
    go_ret
    exact ⟨ret_bool HR.out.symm, rfl⟩
end
end Go.Proofs.YtdppoblbenbafaaDoor
