/- A token. -/
import Derived.Test.YtkkmeogehapjoaaGreatDoorY2
namespace Go.Proofs.YtkkmeogehapjoaaGreatDoor
open Go.RowKit Go.Shelf
/-- A text as cells. -/
def cT (t : List UInt8) : List Value := t.map fun c => .int .u8 c.toNat
theorem cT_str (s : ByteArray) : Lib.strCells s = cT s.data.toList := rfl
theorem cT_app (a b : List UInt8) : cT (a ++ b) = cT a ++ cT b := List.map_append
theorem cT_len (a : List UInt8) : (cT a).length = a.length := List.length_map _
/-- A printer that holds this text. -/
def Pr (B b : Nat) (nd : Value) (t : List UInt8) (w : World) : Prop := Prn B b nd (cT t) w ∧ B ≤ w.heap.size
/-- A token behind a text. -/
def tokS (t s : List UInt8) : List UInt8 := if s = [] then t else if t = [] then s else t ++ 32 :: s
/-- What writing leaves. -/
def PrE (B b : Nat) (nd : Value) (t : List UInt8) (w w' : World) : Prop := Pr B b nd t w' ∧ Below B w w' ∧ Kept b w w'
theorem PrE.of {B b : Nat} {nd p : Value} {t : List UInt8} {w w' : World} (hB : B ≤ w.heap.size) (hp : p = .pointer (some ⟨b, 1, none⟩)) (h : PrnAt B b nd p (cT t) w') (hb : Below B w w') (hk : Kept b w w') : PrE B b nd t w w' := by
  subst hp
  exact ⟨⟨.inr h, Nat.le_trans hB hb.size⟩, hb, hk⟩
theorem string_to (B b : Nat) (nd : Value) (t : List UInt8) (s : ByteArray) (w : World) (h : Pr B b nd t w) (hlen : (t ++ s.data.toList).length ≤ 140737488355328) : Calls Tryz.prog 63 #[.pointer (some ⟨b, 1, none⟩), .string s] w fun e w' => e = .returned (.tuple #[.int .i64 s.size, .nilIface]) ∧ PrE B b nd (t ++ s.data.toList) w w' := by
  refine (writeString63 B b nd (cT t) s w h.1 (by rw [cT_len, ← len_of]; simpa using hlen) h.2).mono ?_
  rintro e w' ⟨rfl, h1, h2, h3⟩
  rw [cT_str, ← cT_app] at h1
  exact ⟨rfl, PrE.of h.2 rfl h1 h2 h3⟩
set_option maxRecDepth 100000 in
set_option maxHeartbeats 4000000 in
theorem token45 (B b : Nat) (nd : Value) (t : List UInt8) (s : ByteArray) (w : World) (h : Pr B b nd t w) (hlen : (tokS t s.data.toList).length ≤ 140737488355328) : Calls Tryz.prog 45 #[.pointer (some ⟨b, 0, none⟩), .string s] w fun e w' => e = .returned (.tuple #[]) ∧ PrE B b nd (tokS t s.data.toList) w w' := by
  have hs : s.toList = s.data.toList := ByteArray.toList_eq s
  by_cases hs0 : s.data.toList = []
  · have H63 := string_to B b nd t s w h
    have e : tokS t s.data.toList = t ++ s.data.toList := by unfold tokS; rw [if_pos hs0, hs0, List.append_nil]
    rw [e] at hlen ⊢
    have H : Hid (Calls Tryz.prog 63 #[.pointer (some ⟨b, 1, none⟩), .string s] w fun e w' => e = .returned (.tuple #[.int .i64 s.size, .nilIface]) ∧ PrE B b nd (t ++ s.data.toList) w w') := H63 hlen
    rw [hs0] at hs
    clear hs0 h H63 e
    generalize t ++ s.data.toList = T at *
    go_enter Tryz.func45, Tryz.ntmps45
    go_wp2_with (go_at_call 63; refine H.out.mono ?_)
    rintro e w' ⟨rfl, hE⟩
    have HE : Hid (PrE B b nd T w w') := hE
    clear hE
    go_wp2
    go_end0
    exact ⟨rfl, HE.out⟩
  · have hl67 := len67 B b nd (cT t) w h.1
    rw [cT_len] at hl67
    have hse : s.data.toList.isEmpty = false := by simpa using hs0
    by_cases ht : t = []
    · subst ht
      have e : tokS [] s.data.toList = [] ++ s.data.toList := by unfold tokS; rw [if_neg hs0, if_pos rfl, List.nil_append]
      rw [e] at hlen ⊢
      have H : Hid (Calls Tryz.prog 63 #[.pointer (some ⟨b, 1, none⟩), .string s] w fun e w' => e = .returned (.tuple #[.int .i64 s.size, .nilIface]) ∧ PrE B b nd ([] ++ s.data.toList) w w') := string_to B b nd [] s w h hlen
      have H67 : Hid (Calls Tryz.prog 67 #[.pointer (some ⟨b, 1, none⟩)] w fun e w' => e = .returned (.int .i64 0) ∧ w' = w) := hl67
      clear hs0 h e hl67
      generalize [] ++ s.data.toList = T at *
      go_enter Tryz.func45, Tryz.ntmps45
      go_wp2_with (first | (go_at_call 63; refine H.out.mono ?_) | (go_at_call 67; refine H67.out.mono ?_; rintro e w' ⟨rfl, hw⟩; subst w'))
      rintro e w' ⟨rfl, hE⟩
      have HE : Hid (PrE B b nd T w w') := hE
      clear hE
      go_wp2
      go_end0
      exact ⟨rfl, HE.out⟩
    · have e : tokS t s.data.toList = (t ++ [32]) ++ s.data.toList := by unfold tokS; rw [if_neg hs0, if_neg ht]; simp
      rw [e] at hlen ⊢
      have hl2 : t.length + 1 ≤ 140737488355328 := by simp at hlen; omega
      have H68 : Hid (Calls Tryz.prog 68 #[.pointer (some ⟨b, 1, none⟩), .int .u8 32] w fun e w' => e = .returned .nilIface ∧ PrE B b nd (t ++ [32]) w w') := by
        refine (writeByte68 B b nd (cT t) 32 w h.1 (by rw [cT_len]; exact hl2) h.2).mono ?_
        rintro e w' ⟨rfl, h1, h2, h3⟩
        refine ⟨rfl, PrE.of h.2 rfl (t := t ++ [32]) ?_ h2 h3⟩
        rw [cT_app]
        exact h1
      have H63 : Hid (∀ W, Pr B b nd (t ++ [32]) W → Calls Tryz.prog 63 #[.pointer (some ⟨b, 1, none⟩), .string s] W fun e w' => e = .returned (.tuple #[.int .i64 s.size, .nilIface]) ∧ PrE B b nd ((t ++ [32]) ++ s.data.toList) W w') := fun W hW => string_to B b nd (t ++ [32]) s W hW hlen
      have H67 : Hid (Calls Tryz.prog 67 #[.pointer (some ⟨b, 1, none⟩)] w fun e w' => e = .returned (.int .i64 t.length) ∧ w' = w) := hl67
      have htl : 0 < t.length := List.length_pos_iff.2 ht
      clear hs0 h e hl67 ht hlen
      generalize t.length = n at *
      generalize (t ++ [32]) ++ s.data.toList = T at *
      generalize t ++ [32] = T1 at *
      go_enter Tryz.func45, Tryz.ntmps45
      go_wp2_with (first | (go_at_call 68; refine H68.out.mono ?_) | (go_at_call 67; refine H67.out.mono ?_; rintro e w' ⟨rfl, hw⟩; subst w'))
      rintro e w1 ⟨rfl, hE⟩
      have HE : Hid (PrE B b nd T1 w w1) := hE
      clear hE
      go_wp2_with fail
      refine (H63.out _ HE.out.1).mono ?_
      rintro e w2 ⟨rfl, hE⟩
      have HF : Hid (PrE B b nd T w w2) := ⟨hE.1, HE.out.2.1.trans hE.2.1, HE.out.2.2.trans hE.2.2⟩
      clear hE HE
      go_wp2
      go_end0
      exact ⟨rfl, HF.out⟩
end Go.Proofs.YtkkmeogehapjoaaGreatDoor
