/- The little functions of lir's check. The runtime's functions, and what an instruction has. Worlds that have drawn, and in which blocks were laid behind. The three instructions of the little program, looked at. The great region of an instruction's look: its order. The three instructions of the little program are right. An instruction of the little program is right. An instruction of the little program is right. An instruction of the little program is right. The little program's block is right. Names, the runtime's functions, and what a field is asked for. -/
import Derived.Test.YtdppoblbenbafaaGreatDoorProg
import Derived.Test.YtdppoblbenbafaaGreatDoorShelf
import Derived.WalkKit
import Derived.WalkSpells
import Derived.WalkLawsBesides
import Derived.LoopTactic
import Derived.Deep.QuietTactic
import Derived.WalkSmall
import Derived.Shelf.Abstract
import Derived.Shelf.RegionOpen
import Derived.Deep.RegionWith
import Derived.RegionTactic
import Derived.Laws.OwnMore
import Derived.Lib.SliceRun
import Derived.BigQuiet
import Derived.Shelf.SlSortCmp.QuietGrown
import Derived.Handy
namespace Go.Proofs.YtdppoblbenbafaaGreatDoor
section
open Go.RowKit Go.Shelf
set_option maxHeartbeats 1000000
theorem bcell {W w1 : World} (hb : Below W.heap.size W w1) : (∀ b o, b < W.heap.size → w1.cell? ⟨b, o, none⟩ = W.cell? ⟨b, o, none⟩) ∧ (∀ b o, b < W.heap.size → w1.frozen? ⟨b, o, none⟩ = W.frozen? ⟨b, o, none⟩) :=
  ⟨fun b o h => hb.cell (p := ⟨b, o, none⟩) h, fun b o h => hb.frozen (p := ⟨b, o, none⟩) h⟩
theorem ret_bool {a b : Bool} (h : a = b) : Ending.returned (.bool a) = .returned (.bool b) := by rw [h]
theorem ret_int {k : IntKind} {a b : Int} (h : a = b) : Ending.returned (.int k a) = .returned (.int k b) := by rw [h]
def dgB (c : Nat) : Bool := decide (48 ≤ c) && decide (c ≤ 57)
def ltB (c : Nat) : Bool := (decide (97 ≤ c) && decide (c ≤ 122)) || (decide (65 ≤ c) && decide (c ≤ 90))
def witB (n a b : Int) : Bool := decide (a ≤ n) && decide (n ≤ b)
def belB (n : Int) (h : Bool) (e : Int) : Bool := if h then decide (0 ≤ n) && decide (n < e) else decide (n = 0)
def endB (op : Int) : Bool := decide (8 ≤ op) && decide (op ≤ 11)
theorem isDigit56 (c : Nat) (w : World) : Calls Tryz.prog 88 #[.int .u8 (c : Int)] w fun e w' => e = .returned (.bool (dgB c)) ∧ w' = w := by
  go_enter Tryz.func88, Tryz.ntmps88
  go_wp2
  all_goals go_ret
  all_goals exact ⟨ret_bool (by rw [Bool.eq_iff_iff]; simp [dgB]; omega), rfl⟩
theorem isLetter57 (c : Nat) (w : World) : Calls Tryz.prog 89 #[.int .u8 (c : Int)] w fun e w' => e = .returned (.bool (ltB c)) ∧ w' = w := by
  go_enter Tryz.func89, Tryz.ntmps89
  go_wp2
  all_goals go_ret
  all_goals exact ⟨ret_bool (by rw [Bool.eq_iff_iff]; simp [ltB]; omega), rfl⟩
theorem isEnd58 (c : Int) (w : World) : Calls Tryz.prog 90 #[.int .i64 c] w fun e w' => e = .returned (.bool (endB c)) ∧ w' = w := by
  go_enter Tryz.func90, Tryz.ntmps90
  go_wp2
  all_goals go_ret
  all_goals exact ⟨ret_bool (by rw [Bool.eq_iff_iff]; simp [endB]; omega), rfl⟩
theorem within47 (n a b : Int) (w : World) : Calls Tryz.prog 60 #[.int .i64 n, .int .i64 a, .int .i64 b] w fun e w' => e = .returned (.bool (witB n a b)) ∧ w' = w := by
  go_enter Tryz.func60, Tryz.ntmps60
  go_wp2
  all_goals go_ret
  all_goals exact ⟨ret_bool (by rw [Bool.eq_iff_iff]; simp [witB]; omega), rfl⟩
theorem below65 (n : Int) (h : Bool) (b : Int) (w : World) : Calls Tryz.prog 126 #[.int .i64 n, .bool h, .int .i64 b] w fun e w' => e = .returned (.bool (belB n h b)) ∧ w' = w := by
  cases h
  all_goals
    go_enter Tryz.func126, Tryz.ntmps126
    go_wp2
    all_goals go_ret
    all_goals exact ⟨ret_bool (by rw [Bool.eq_iff_iff]; simp [belB]; try omega), rfl⟩
end
section
open Go.RowKit Go.Shelf
set_option maxHeartbeats 1000000
def hsB (F : ByteArray) (c : UInt8) : Bool := decide (0 ≤ Lib.indexByte F.data.toList c)
theorem has63 (F : ByteArray) (c : UInt8) (b : Nat) (w : World) (h : w.cell? ⟨b, 0, none⟩ = some (.string F)) : Calls Tryz.prog 124 #[.string ⟨#[c]⟩, .pointer (some ⟨b, 0, none⟩)] w fun e w' => e = .returned (.bool (hsB F c)) ∧ w' = w := by
  have hC : ∀ w : World, Calls Tryz.prog 125 #[.string F, .string ⟨#[c]⟩] w fun e w' => e = .returned (.bool (hsB F c)) ∧ w' = w := fun w => Tryz.strings_Contains_one F c w
  go_enter Tryz.func124, Tryz.ntmps124
  go_wp2_with (first | (go_at_call 125; refine (hC _).mono ?_; rintro e w' ⟨rfl, rfl⟩))
  go_ret
  exact ⟨rfl, rfl⟩
end
section
open Go.RowKit Go.Shelf
/-- The world has drawn some times, and has blocks more. -/
def G (w w' : World) : Prop := ∃ q os, w' = Go.Sort.grow (w.drewN q) os
theorem G.refl (w : World) : G w w := ⟨0, #[], by simp; rfl⟩
theorem G.alloc {w w' : World} (h : G w w') (o : Obj) : G w (w'.alloc o) := by
  obtain ⟨q, os, rfl⟩ := h
  exact ⟨q, os ++ #[o], by rw [Go.Sort.alloc_eq_grow, Go.Sort.grow_grow]⟩
theorem G.trans {a b c : World} (h : G a b) (h' : G b c) : G a c := by
  obtain ⟨q, os, rfl⟩ := h
  obtain ⟨q', os', rfl⟩ := h'
  exact ⟨q + q', os ++ os', by show Go.Sort.grow (Go.Sort.grow ((a.drewN q).drewN q') os) os' = _; rw [Go.Sort.grow_grow, World.drewN_drewN]⟩
theorem G.below {w w' : World} (h : G w w') : Below w.heap.size w w' := by
  obtain ⟨q, os, rfl⟩ := h
  refine ⟨rfl, rfl, rfl, by simp, fun i hi => ?_⟩
  show ((w.drewN q).heap ++ os)[i]? = _
  rw [Array.getElem?_append_left (by exact hi)]
  rfl
theorem G.to {P : Program} {f : FuncId} {args : Array Value} {w : World} {n : Nat} {os : Array Obj} {v : Value} (h : Calls P f args (Go.Sort.grow (w.drewN n) os) fun e w' => e = .returned v ∧ G (Go.Sort.grow (w.drewN n) os) w') : Calls P f args (Go.Sort.grow (w.drewN n) os) fun e w'' => e = .returned v ∧ ∃ p : GrownBy, w'' = Go.Sort.grow (w.drewN p.n) p.os := Calls.grown_of h
theorem G.same {P : Program} {f : FuncId} {args : Array Value} {w : World} {n : Nat} {os : Array Obj} {v : Value} (h : Calls P f args (Go.Sort.grow (w.drewN n) os) fun e w' => e = .returned v ∧ w' = Go.Sort.grow (w.drewN n) os) : Calls P f args (Go.Sort.grow (w.drewN n) os) fun e w'' => e = .returned v ∧ ∃ p : GrownBy, w'' = Go.Sort.grow (w.drewN p.n) p.os :=
  h.mono fun _ _ ⟨he, hw⟩ => ⟨he, ⟨n, os⟩, hw⟩
theorem gcell {W : World} {b o : Nat} {v : Value} (hb : b < W.heap.size) (h : W.cell? ⟨b, o, none⟩ = some v) : ∀ n os, (Go.Sort.grow (W.drewN n) os).cell? ⟨b, o, none⟩ = some v := fun n os => cell_grown (a := ⟨b, o, none⟩) hb h n os
end
section
open Go.RowKit Go.Shelf
def i0 : Value := .agg #[.int .i64 1, .int .i64 0, .int .i64 0, .int .i64 0, .int .i64 7, .string ⟨#[]⟩, .slice none 0 0, .int .i64 0, .int .i64 0]
def i1 (y : Nat) : Value := .agg #[.int .i64 7, .int .i64 (-1), .int .i64 0, .int .i64 0, .int .i64 0, .string ⟨#[114, 116, 46, 112, 114, 105, 110, 116]⟩, .slice (some ⟨y, 0, none⟩) 1 1, .int .i64 0, .int .i64 0]
def i2 : Value := .agg #[.int .i64 10, .int .i64 0, .int .i64 (-1), .int .i64 0, .int .i64 0, .string ⟨#[]⟩, .slice none 0 0, .int .i64 0, .int .i64 0]
end
section
open Go.RowKit Go.Shelf
/-- The operations of a region, by its number. -/
def opsOf : Code → Nat → List Oper
  | .region id ops _, n => if id = n then ops.toList else []
  | .seq a b, n => match opsOf a n with
    | [] => opsOf b n
    | l => l
  | .cond _ a b, n => match opsOf a n with
    | [] => opsOf b n
    | l => l
  | .block _ b, n => opsOf b n
  | .loop b, n => opsOf b n
  | .scope b, n => opsOf b n
  | _, _ => []
theorem lex59 : Region.lexB .any (opsOf (Tryz.f91.body.getD .skip) 11).toArray = true := by kernel_rfl
end
section
open Go.RowKit Go.Shelf
end
section
open Go.RowKit Go.Shelf
end
section
open Go.RowKit Go.Shelf
end
section
open Go.RowKit Go.Shelf
end
section
open Go.RowKit Go.Shelf
/-- The cells of the three instructions. -/
def insL (z : Nat) : List Value := [.int .i64 1, .int .i64 0, .int .i64 0, .int .i64 0, .int .i64 7, .string ⟨#[]⟩, .slice none 0 0, .int .i64 0, .int .i64 0, .int .i64 7, .int .i64 (-1), .int .i64 0, .int .i64 0, .int .i64 0, .string ⟨#[114, 116, 46, 112, 114, 105, 110, 116]⟩, .slice (some ⟨z, 0, none⟩) 1 1, .int .i64 0, .int .i64 0, .int .i64 10, .int .i64 0, .int .i64 (-1), .int .i64 0, .int .i64 0, .string ⟨#[]⟩, .slice none 0 0, .int .i64 0, .int .i64 0]
/-- They lie at x; the call's arguments at z. -/
structure Ib (w : World) (x z : Nat) : Prop where
  at_ : ∀ j v, (insL z)[j]? = some v → w.cell? ⟨x, j, none⟩ = some v
  ar : w.cell? ⟨z, 0, none⟩ = some (.int .i64 0)
  lx : x < w.heap.size
  lz : z < w.heap.size
theorem acell {W : World} {b o : Nat} {v : Value} (hb : b < W.heap.size) (h : W.cell? ⟨b, o, none⟩ = some v) : ∀ obj, (W.alloc obj).cell? ⟨b, o, none⟩ = some v := fun obj => by
  rw [((Below.refl W.heap.size W).alloc (Nat.le_refl _) obj).cell (p := ⟨b, o, none⟩) hb]
  exact h
end
section
open Go.RowKit Go.Shelf
set_option maxHeartbeats 2000000
def okc (c : UInt8) : Bool := dgB c.toNat || (ltB c.toNat || decide (c.toNat = 95))
/-- May a function have this name? -/
def nmB (l : List UInt8) : Bool := decide (1 ≤ l.length) && (decide (l.length ≤ 64) && (!(dgB (l.getD 0 0).toNat) && l.all okc))
theorem take_snoc (s : ByteArray) (k : Nat) (h : k < s.size) : s.data.toList.take (k + 1) = s.data.toList.take k ++ [s[k]] := by
  rw [List.take_succ_eq_append_getElem (by simpa using h)]; rfl
theorem get_ba (s : ByteArray) (k : Nat) (h : k < s.size) : s.data.toList.getD k 0 = s[k] := by
  rw [List.getD_eq_getElem?_getD, List.getElem?_eq_getElem (by simpa using h)]; rfl
theorem nameRight46 (s : ByteArray) (w : World) (hs : s.size ≤ maxLen) : Calls Tryz.prog 59 #[.string s] w fun e w' => e = .returned (.bool (nmB s.data.toList)) ∧ w' = w := by
  unfold maxLen at hs
  have hL : Hid (s.data.toList.length = s.size) := by show _ = _; simp
  by_cases h1 : 1 ≤ s.size
  · by_cases h2 : s.size ≤ 64
    · have h0 : 0 < s.size := h1
      have HG : Hid (s.data.toList.getD 0 0 = s[0]) := get_ba s 0 h0
      have hw : witB (s.size : Int) 1 64 = true := by simp [witB]; omega
      have hW : ∀ w : World, Calls Tryz.prog 60 #[.int .i64 (s.size : Int), .int .i64 1, .int .i64 64] w fun e w' => e = .returned (.bool true) ∧ w' = w := fun w => by
        have t := within47 (s.size : Int) 1 64 w
        rw [hw] at t
        exact t
      clear hw
      by_cases h3 : dgB (s[0].toNat) = true
      · have hD : ∀ w : World, Calls Tryz.prog 88 #[.int .u8 (s[0].toNat : Int)] w fun e w' => e = .returned (.bool true) ∧ w' = w := fun w => by
          have t := isDigit56 s[0].toNat w
          rw [h3] at t
          exact t
        have HR : Hid (nmB s.data.toList = false) := by show _ = _; simp only [nmB]; rw [HG.out, h3]; simp
        clear h3
        go_enter Tryz.func59, Tryz.ntmps59
        go_wp2_with (first | (go_at_call 60; refine (hW _).mono ?_; rintro e w' ⟨rfl, rfl⟩) | (go_at_call 88; refine (hD _).mono ?_; rintro e w' ⟨rfl, rfl⟩))
        go_ret
        exact ⟨ret_bool HR.out.symm, rfl⟩
      · have h3' : dgB (s[0].toNat) = false := by simpa using h3
        have hD : ∀ w : World, Calls Tryz.prog 88 #[.int .u8 (s[0].toNat : Int)] w fun e w' => e = .returned (.bool false) ∧ w' = w := fun w => by
          have t := isDigit56 s[0].toNat w
          rw [h3'] at t
          exact t
        have HR : Hid (nmB s.data.toList = s.data.toList.all okc) := by
          show _ = _
          simp only [nmB]
          rw [HG.out, h3', hL.out]
          simp [h1, h2]
        clear h3 h3'
        go_enter Tryz.func59, Tryz.ntmps59
        go_wp2_with (first | (go_at_call 60; refine (hW _).mono ?_; rintro e w' ⟨rfl, rfl⟩) | (go_at_call 88; refine (hD _).mono ?_; rintro e w' ⟨rfl, rfl⟩))
        clear hD
        go_loop [16] (fun i => ∃ k : Nat, k ≤ s.size ∧ i = .int .i64 k ∧ (s.data.toList.take k).all okc = true) (fun i => s.size - (intOf i).toNat)
        case atStart => exact ⟨0, Nat.zero_le _, rfl, rfl⟩
        case round =>
          obtain ⟨k, hk, rfl, ha⟩ := hrel
          have HA : Hid ((s.data.toList.take k).all okc = true) := ha
          clear ha
          by_cases hlt : k < s.size
          · have HT : Hid (s.data.toList.take (k + 1) = s.data.toList.take k ++ [s[k]]) := take_snoc s k hlt
            by_cases hd : okc s[k] = true
            · have HK : Hid (okc s[k] = true) := hd
              have ho : dgB s[k].toNat = true ∨ (dgB s[k].toNat = false ∧ ltB s[k].toNat = true) ∨ (dgB s[k].toNat = false ∧ ltB s[k].toNat = false ∧ s[k].toNat = 95) := by
                unfold okc at hd
                cases h : dgB s[k].toNat <;> cases h' : ltB s[k].toNat <;> simp_all
              clear hd
              rcases ho with h | ⟨h, h'⟩ | ⟨h, h', h''⟩
              · have hD : ∀ w : World, Calls Tryz.prog 88 #[.int .u8 (s[k].toNat : Int)] w fun e w' => e = .returned (.bool true) ∧ w' = w := fun w => by
                  have t := isDigit56 s[k].toNat w
                  rw [h] at t
                  exact t
                clear h
                go_wp2_with (first | (go_at_call 88; refine (hD _).mono ?_; rintro e w' ⟨rfl, rfl⟩))
                go_round
                case rel => exact ⟨k + 1, by omega, by go_num, by rw [HT.out, List.all_append, HA.out]; simp [HK.out]⟩
                case measure => simp [intOf]; omega
              · have hD : ∀ w : World, Calls Tryz.prog 88 #[.int .u8 (s[k].toNat : Int)] w fun e w' => e = .returned (.bool false) ∧ w' = w := fun w => by
                  have t := isDigit56 s[k].toNat w
                  rw [h] at t
                  exact t
                have hE : ∀ w : World, Calls Tryz.prog 89 #[.int .u8 (s[k].toNat : Int)] w fun e w' => e = .returned (.bool true) ∧ w' = w := fun w => by
                  have t := isLetter57 s[k].toNat w
                  rw [h'] at t
                  exact t
                clear h h'
                go_wp2_with (first | (go_at_call 88; refine (hD _).mono ?_; rintro e w' ⟨rfl, rfl⟩) | (go_at_call 89; refine (hE _).mono ?_; rintro e w' ⟨rfl, rfl⟩))
                go_round
                case rel => exact ⟨k + 1, by omega, by go_num, by rw [HT.out, List.all_append, HA.out]; simp [HK.out]⟩
                case measure => simp [intOf]; omega
              · have hD : ∀ w : World, Calls Tryz.prog 88 #[.int .u8 (s[k].toNat : Int)] w fun e w' => e = .returned (.bool false) ∧ w' = w := fun w => by
                  have t := isDigit56 s[k].toNat w
                  rw [h] at t
                  exact t
                have hE : ∀ w : World, Calls Tryz.prog 89 #[.int .u8 (s[k].toNat : Int)] w fun e w' => e = .returned (.bool false) ∧ w' = w := fun w => by
                  have t := isLetter57 s[k].toNat w
                  rw [h'] at t
                  exact t
                have hq : ((s[k].toNat : Int) == 95) = true := by simp; omega
                clear h h' h''
                go_wp2_with (first | (go_at_call 88; refine (hD _).mono ?_; rintro e w' ⟨rfl, rfl⟩) | (go_at_call 89; refine (hE _).mono ?_; rintro e w' ⟨rfl, rfl⟩))
                go_round
                case rel => exact ⟨k + 1, by omega, by go_num, by rw [HT.out, List.all_append, HA.out]; simp [HK.out]⟩
                case measure => simp [intOf]; omega
            · have hd' : okc s[k] = false := by simpa using hd
              have HF : Hid (s.data.toList.all okc = false) := by
                show _ = _
                rw [List.all_eq_false]
                exact ⟨s[k], Array.getElem_mem_toList _, by rw [hd']; simp⟩
              have ho : dgB s[k].toNat = false ∧ ltB s[k].toNat = false ∧ ¬ s[k].toNat = 95 := by
                unfold okc at hd'
                cases h : dgB s[k].toNat <;> cases h' : ltB s[k].toNat <;> simp_all
              obtain ⟨h, h', h''⟩ := ho
              have hD : ∀ w : World, Calls Tryz.prog 88 #[.int .u8 (s[k].toNat : Int)] w fun e w' => e = .returned (.bool false) ∧ w' = w := fun w => by
                have t := isDigit56 s[k].toNat w
                rw [h] at t
                exact t
              have hE : ∀ w : World, Calls Tryz.prog 89 #[.int .u8 (s[k].toNat : Int)] w fun e w' => e = .returned (.bool false) ∧ w' = w := fun w => by
                have t := isLetter57 s[k].toNat w
                rw [h'] at t
                exact t
              have hq : ((s[k].toNat : Int) == 95) = false := by simp; omega
              clear h h' h'' hd hd'
              go_wp2_with (first | (go_at_call 88; refine (hD _).mono ?_; rintro e w' ⟨rfl, rfl⟩) | (go_at_call 89; refine (hE _).mono ?_; rintro e w' ⟨rfl, rfl⟩))
              go_ret
              exact ⟨ret_bool (by rw [HR.out, HF.out]), rfl⟩
          · go_wp2
            go_ret
            exact ⟨ret_bool (by rw [HR.out, ← HA.out, List.take_of_length_le (by rw [hL.out]; omega)]), rfl⟩
    · have hw : witB (s.size : Int) 1 64 = false := by simp [witB]; omega
      have hW : ∀ w : World, Calls Tryz.prog 60 #[.int .i64 (s.size : Int), .int .i64 1, .int .i64 64] w fun e w' => e = .returned (.bool false) ∧ w' = w := fun w => by
        have t := within47 (s.size : Int) 1 64 w
        rw [hw] at t
        exact t
      have HR : Hid (nmB s.data.toList = false) := by show _ = _; simp only [nmB]; rw [hL.out]; simp [h2]
      clear hw
      go_enter Tryz.func59, Tryz.ntmps59
      go_wp2_with (first | (go_at_call 60; refine (hW _).mono ?_; rintro e w' ⟨rfl, rfl⟩))
      go_ret
      exact ⟨ret_bool HR.out.symm, rfl⟩
  · have hw : witB (s.size : Int) 1 64 = false := by simp [witB]; omega
    have hW : ∀ w : World, Calls Tryz.prog 60 #[.int .i64 (s.size : Int), .int .i64 1, .int .i64 64] w fun e w' => e = .returned (.bool false) ∧ w' = w := fun w => by
      have t := within47 (s.size : Int) 1 64 w
      rw [hw] at t
      exact t
    have HR : Hid (nmB s.data.toList = false) := by show _ = _; simp only [nmB]; rw [hL.out]; simp [h1]
    clear hw
    go_enter Tryz.func59, Tryz.ntmps59
    go_wp2_with (first | (go_at_call 60; refine (hW _).mono ?_; rintro e w' ⟨rfl, rfl⟩))
    go_ret
    exact ⟨ret_bool HR.out.symm, rfl⟩
end
end Go.Proofs.YtdppoblbenbafaaGreatDoor
