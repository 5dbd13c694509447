/- The first byte that is part of no letter, by the program. -/
import Derived.Test.YtgdbfedagdlgkaaDoorB3
import Derived.Lib.OthersKept
import Derived.Lib.TrimU
import Derived.Lib.FieldsU
import Derived.Lib.RuneCountTail
import Derived.Deep.LoopGhost
import Derived.Deep.CutBlock
namespace Go.Proofs.YtgdbfedagdlgkaaDoor
open Go.RowKit Go.Shelf
/-- The rune and its width at a place. -/
theorem decode_from (s : ByteArray) (p : Nat) (h : p < s.size) : Lib.decodeGo (s.extract p s.size) = Utf8.decode s p := by
  unfold Lib.decodeGo
  have hz : (s.extract p s.size).size = s.size - p := by simp
  rw [if_neg (by omega), Lib.decode_at, Lib.decode_at, hz]
  simp only [Lib.tail_get!, Nat.sub_zero, Nat.zero_add, Nat.add_zero]
theorem width_le (s : ByteArray) (p : Nat) (h : p < s.size) : p + (Utf8.decode s p).2 ≤ s.size := by
  have := Lib.decodeN_le_n' (s.size - p) (s.get! p).toNat (s.get! (p + 1)).toNat (s.get! (p + 2)).toNat (s.get! (p + 3)).toNat (by omega)
  rw [← Lib.decode_at] at this
  omega
theorem lt_of_block {W : World} {k : Nat} {o : Obj} (h : W.heap[k]? = some o) : k < W.heap.size := (Array.getElem?_eq_some_iff.1 h).1
def badB (s : ByteArray) (p : Nat) : Bool := decide ((Utf8.decode s p).1 = 65533) && decide ((Utf8.decode s p).2 = 1)
def stray (s : ByteArray) : Nat → Nat → Option Nat
  | 0, _ => none
  | f + 1, p => if p < s.size then (if badB s p then some p else stray s f (p + (Utf8.decode s p).2)) else none
theorem stray_step {s : ByteArray} {p : Nat} (f : Nat) (h : p < s.size) : stray s (f + 1) p = if badB s p then some p else stray s f (p + (Utf8.decode s p).2) := by
  show (if p < s.size then _ else _) = _
  rw [if_pos h]
theorem stray_end {s : ByteArray} {p : Nat} (f : Nat) (h : ¬ p < s.size) : stray s f p = none := by
  cases f with
  | zero => rfl
  | succ f =>
    show (if p < s.size then _ else _) = _
    rw [if_neg h]
def strV (o : Option Nat) : Value := match o with
  | some p => .tuple #[.int .i64 p, .bool true]
  | none => .tuple #[.int .i64 0, .bool false]
set_option maxRecDepth 100000 in
set_option maxHeartbeats 4000000 in
theorem stray22 (s : ByteArray) (w : World) (hT : Tb w) (_hs : s.size ≤ 281474976710656) : Calls Tryd.prog 22 #[.string s] w fun e w' => e = .returned (strV (stray s s.size 0)) ∧ Below w.heap.size w w' := by
  have HD : Hid (∀ W p, Below w.heap.size w W → p < s.size → Calls Tryd.prog 44 #[.string (s.extract p s.size)] W fun e w' => e = .returned (.tuple #[.int .i32 (Utf8.decode s p).1, .int .i64 (Utf8.decode s p).2]) ∧ Below W.heap.size W w') := fun W p hW hp => by
    have t := Tryd.utf8_DecodeRuneInString (s.extract p s.size) W (hT.below hW (Nat.le_refl _)).utf
    rw [decode_from s p hp] at t
    exact t
  clear hT
  go_enter Tryd.func22, Tryd.ntmps22
  go_wp2
  go_loopg [] s.size (fun gf wx => ∃ pos : Nat, wx.heap[w.heap.size]? = some (.stringIter s pos) ∧ Below w.heap.size w wx ∧ Hid (stray s gf pos = stray s s.size 0) ∧ s.size ≤ pos + gf ∧ pos ≤ s.size)
  case atStart => exact ⟨0, World.iter_heap w s 0, (Below.refl _ w).alloc (Nat.le_refl _) _, rfl, by omega, Nat.zero_le _⟩
  case round =>
    obtain ⟨pos, hit, hbw, HS, hfu, hps⟩ := hrel
    by_cases hlt : pos < s.size
    · obtain ⟨g', rfl⟩ : ∃ g', gk = g' + 1 := ⟨gk - 1, by omega⟩
      have hnx : ∀ ty, (Instr.next (.pointer (some ⟨w.heap.size, 0, none⟩)) true ty).run Tryd.prog wr = _ := fun ty => Lib.run_next_any_at wr w.heap.size s pos ty hit hlt
      have hwd := Lib.width_pos s pos
      have hwn := width_le s pos hlt
      have hit2 := Lib.iterAt_heap wr w.heap.size s pos (pos + (Utf8.decode s pos).2) hit
      have hbw2 := Lib.below_iterAt hbw (k := w.heap.size) (Nat.le_refl _) s (pos + (Utf8.decode s pos).2)
      have hcall := HD.out (wr.iterAt w.heap.size s (pos + (Utf8.decode s pos).2)) pos hbw2 hlt
      have hst := HS.out
      rw [stray_step g' hlt] at hst
      unfold badB at hst
      generalize wr.iterAt w.heap.size s (pos + (Utf8.decode s pos).2) = W at *
      generalize (Utf8.decode s pos).2 = K at *
      generalize (Utf8.decode s pos).1 = R at *
      have HC : Hid (Calls Tryd.prog 44 #[.string (s.extract pos s.size)] W fun e w' => e = .returned (.tuple #[.int .i32 R, .int .i64 K]) ∧ Below W.heap.size W w') := hcall
      have HI : Hid (W.heap[w.heap.size]? = some (.stringIter s (pos + K))) := hit2
      have HB : Hid (Below w.heap.size w W) := hbw2
      clear hcall hit hit2 hbw hbw2 HS
      by_cases hR : R = 65533
      · subst hR
        by_cases hK : K = 1
        · subst hK
          have HS : Hid (some pos = stray s s.size 0) := show some pos = stray s s.size 0 by simpa using hst
          clear hst
          go_wp2_with (go_at_call 44; refine HC.out.mono ?_; rintro e w2 ⟨rfl, hb⟩; have HB2 : Hid (Below _ _ w2) := hb; clear hb)
          go_ret2
          exact ⟨by rw [← HS.out]; rfl, HB.out.trans (HB2.out.mono HB.out.size)⟩
        · have HS : Hid (stray s g' (pos + K) = stray s s.size 0) := show stray s g' (pos + K) = stray s s.size 0 by simpa [hK] using hst
          have hK' : ¬ (K : Int) = 1 := by omega
          clear hst
          go_wp2_with (go_at_call 44; refine HC.out.mono ?_; rintro e w2 ⟨rfl, hb⟩; have HB2 : Hid (Below _ _ w2) := hb; clear hb)
          go_roundg g'
          case measure => omega
          case rel => exact ⟨pos + K, (HB2.out.block _ (lt_of_block HI.out)).trans HI.out, HB.out.trans (HB2.out.mono HB.out.size), HS.out, by omega, hwn⟩
      · have HS : Hid (stray s g' (pos + K) = stray s s.size 0) := show stray s g' (pos + K) = stray s s.size 0 by simpa [hR] using hst
        have hR' : ¬ (R : Int) = 65533 := by omega
        clear hst
        go_wp2
        go_roundg g'
        case measure => omega
        case rel => exact ⟨pos + K, HI.out, HB.out, HS.out, by omega, hwn⟩
    · have hnx : ∀ ty, (Instr.next (.pointer (some ⟨w.heap.size, 0, none⟩)) true ty).run Tryd.prog wr = _ := fun ty => Lib.run_next_end_at wr w.heap.size s pos ty hit hlt
      have HB : Hid (Below w.heap.size w wr) := hbw
      have HN : Hid (stray s s.size 0 = none) := HS.out.symm.trans (stray_end gk hlt)
      clear hbw HS
      go_wp2
      go_ret2
      exact ⟨by rw [HN.out]; rfl, HB.out⟩
end Go.Proofs.YtgdbfedagdlgkaaDoor
