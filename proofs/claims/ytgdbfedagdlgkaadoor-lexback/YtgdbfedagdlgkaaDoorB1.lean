/- What the program's library leans on; numbers, remarks, copies of texts. -/
import Derived.Test.YtgdbfedagdlgkaaDoorA5
import Derived.Test.YtgdbfedagdlgkaaDoorShelf
import Derived.Lib.SmallJoins
namespace Go.Proofs.YtgdbfedagdlgkaaDoor
open Go.RowKit Go.Shelf
/-- The library's tables, as the rows list them. -/
structure Tb (w : World) : Prop where
  syn : ∃ te pe, w.cell? ⟨4, 0, none⟩ = some (.iface te pe)
  rng : ∃ te pe, w.cell? ⟨5, 0, none⟩ = some (.iface te pe)
  utf : Lib.Utf8Tabs 1 2 w
  pow : Lib.TabIs Tryd.prog w "internal/strconv.uint64pow10" .u64 Lib.pow10Tab
  size : 6 ≤ w.heap.size
theorem gPow : Tryd.prog.globalNamed "internal/strconv.uint64pow10" = some 3 := by kernel_rfl
theorem Tb.below {w w' : World} (h : Tb w) {B : Nat} (hb : Below B w w') (hB : w.heap.size ≤ B) : Tb w' := by
  have hb' : Below w.heap.size w w' := hb.mono hB
  have h6 := h.size
  obtain ⟨t1, p1, e1⟩ := h.syn
  obtain ⟨t2, p2, e2⟩ := h.rng
  refine ⟨⟨t1, p1, ?_⟩, ⟨t2, p2, ?_⟩, ?_, Joins.tab_stays gPow h.pow hb' (Nat.le_refl _), by have := hb'.size; omega⟩
  · rw [hb'.cell (p := ⟨4, 0, none⟩) (by show 4 < _; omega)]
    exact e1
  · rw [hb'.cell (p := ⟨5, 0, none⟩) (by show 5 < _; omega)]
    exact e2
  · obtain ⟨u1, u2⟩ := h.utf
    exact ⟨fun i hi => by rw [hb'.cell (p := ⟨1, i, none⟩) (by show 1 < _; omega)]; exact u1 i hi, fun i hi => by
      obtain ⟨a, b⟩ := u2 i hi
      exact ⟨by rw [hb'.cell (p := ⟨2, _, none⟩) (by show 2 < _; omega)]; exact a, by rw [hb'.cell (p := ⟨2, _, none⟩) (by show 2 < _; omega)]; exact b⟩⟩
def nuO (l : List UInt8) : Option Int := match Lib.parseIntB 64 l with
  | .ok v => some v
  | _ => none
theorem below5 {w w1 : World} {o : Obj} (hb : Below (w.alloc o).heap.size (w.alloc o) w1) (v0 v1 v2 v3 v4 : Value) :
    Below w.heap.size w (((((w1.setCell ⟨w.heap.size, 0, none⟩ v0).setCell ⟨w.heap.size, 1, none⟩ v1).setCell ⟨w.heap.size, 2, none⟩ v2).setCell ⟨w.heap.size, 3, none⟩ v3).setCell ⟨w.heap.size, 4, none⟩ v4) :=
  ((((((((Below.refl _ w).alloc (Nat.le_refl _) o).trans (hb.mono (by simp))).setCell (Nat.le_refl _) v0).setCell (Nat.le_refl _) v1).setCell (Nat.le_refl _) v2).setCell (Nat.le_refl _) v3).setCell (Nat.le_refl _) v4)
set_option maxHeartbeats 2000000 in
theorem number61_ok (s : ByteArray) (v : Int) (w : World) (hs : s.size ≤ 281474976710656) (h : nuO s.data.toList = some v) : Calls Tryd.prog 61 #[.string s] w fun e w' => e = .returned (.tuple #[tkv 3 s v 0 0, .int .i64 0]) ∧ Below w.heap.size w w' := by
  have hp : Lib.parseIntB 64 s.data.toList = .ok v := by
    unfold nuO at h
    split at h
    · rename_i x hx
      cases h
      exact hx
    · cases h
  have HC : Hid (∀ W, Calls Tryd.prog 72 #[.string s, .int .i64 10, .int .i64 64] W fun e w' => e = .returned (.tuple #[.int .i64 v, .nilIface]) ∧ Below W.heap.size W w') := fun W => (Tryd.strconv_ParseInt_10_at64_ok s (by omega) v hp W).mono fun e w' ⟨he, hw⟩ => ⟨he, by
    rcases hw with rfl | ⟨t, rfl⟩
    · exact Below.refl _ _
    · exact Joins.below_bytesWorld _ _ _ _ (Nat.le_refl _)⟩
  clear hp h
  unfold tkv
  go_enter Tryd.func61, Tryd.ntmps61
  go_wp2_with fail
  refine (HC.out _).mono ?_
  rintro e w1 ⟨rfl, hb⟩
  have HB : Hid (Below _ _ w1) := hb
  obtain ⟨hc, hf⟩ := bcell hb
  have hz : w.heap.size < w1.heap.size := by have := hb.size; simp at this; omega
  clear hb
  go_wp2
  exact bodyPost_ret (v := .tuple #[.agg #[.int .i64 3, .string s, .int .i64 v, .int .i64 0, .int .i64 0], .int .i64 0]) (by simp [results, Tryd.results61, go_sem, hc]) rfl ⟨rfl, below5 HB.out _ _ _ _ _⟩
set_option maxHeartbeats 2000000 in
theorem number61_no (s : ByteArray) (w : World) (hs : s.size ≤ 281474976710656) (hT : Tb w) (h : nuO s.data.toList = none) : Calls Tryd.prog 61 #[.string s] w fun e w' => e = .returned (.tuple #[tkv 0 s 0 0 0, .int .i64 112]) ∧ Below w.heap.size w w' := by
  have HC : Hid (∀ W, Below w.heap.size w W → Calls Tryd.prog 72 #[.string s, .int .i64 10, .int .i64 64] W fun e w' => ∃ n N, e = .returned (.tuple #[.int .i64 n, .iface 107 (.pointer (some ⟨N, 0, none⟩))]) ∧ Below W.heap.size W w') := fun W hW => by
    have hT' := hT.below hW (Nat.le_refl _)
    obtain ⟨t1, p1, e1⟩ := hT'.syn
    obtain ⟨t2, p2, e2⟩ := hT'.rng
    unfold nuO at h
    split at h
    · cases h
    · rename_i x hx
      cases hq : Lib.parseIntB 64 s.data.toList with
      | ok v => exact absurd hq (hx v)
      | «syntax» => exact (Tryd.strconv_ParseInt_10_at64_syntax s hs hq _ W e1 (.inr ⟨_, _, rfl⟩)).mono fun e w' ⟨N, he, _, _, hb⟩ => ⟨_, N, he, hb⟩
      | range => exact (Tryd.strconv_ParseInt_10_at64_range s hs hq _ W e2 (.inr ⟨_, _, rfl⟩)).mono fun e w' ⟨N, he, _, _, hb⟩ => ⟨_, N, he, hb⟩
  clear hT h
  unfold tkv
  go_enter Tryd.func61, Tryd.ntmps61
  go_wp2_with fail
  refine (HC.out _ ((Below.refl _ w).alloc (Nat.le_refl _) _)).mono ?_
  rintro e w1 ⟨n, N, rfl, hb⟩
  have HB : Hid (Below _ _ w1) := hb
  obtain ⟨hc, hf⟩ := bcell hb
  have hz : w.heap.size < w1.heap.size := by have := hb.size; simp at this; omega
  clear hb
  go_wp2
  exact bodyPost_ret (v := .tuple #[.agg #[.int .i64 0, .string s, .int .i64 0, .int .i64 0, .int .i64 0], .int .i64 112]) (by simp [results, Tryd.results61, go_sem, hc]) rfl ⟨rfl, below5 HB.out _ _ _ _ _⟩
def rmk (l : List UInt8) : Nat := if Lib.hasPrefix l [47, 47] then (if 0 ≤ Lib.indexByte l 10 then (Lib.indexByte l 10).toNat else l.length) else 0
set_option maxHeartbeats 2000000 in
theorem remark45 (s : ByteArray) (w : World) : Calls Tryd.prog 45 #[.string s] w fun e w' => e = .returned (.int .i64 (rmk s.data.toList)) ∧ w' = w := by
  have hL := len_of s
  have HP : Hid (∀ w, Calls Tryd.prog 57 #[.string s, .string ⟨#[47, 47]⟩] w fun e w' => e = .returned (.bool (Lib.hasPrefix s.data.toList [47, 47])) ∧ w' = w) := fun w => Tryd.strings_HasPrefix s _ w
  have HI : Hid (∀ w, Calls Tryd.prog 58 #[.string s, .int .u8 10] w fun e w' => e = .returned (.int .i64 (Lib.indexByte s.data.toList 10)) ∧ w' = w) := fun w => Tryd.strings_IndexByte s 10 w
  generalize s.data.toList = l at *
  have HL2 : Hid (l.length = s.size) := hL
  clear hL
  unfold rmk
  cases hp : Lib.hasPrefix l [47, 47]
  · simp only [Bool.false_eq_true, if_false]
    go_enter Tryd.func45, Tryd.ntmps45
    go_wp2_with (go_at_call 57; refine (HP.out _).mono ?_; rintro e w' ⟨rfl, rfl⟩)
    go_ret
    exact ⟨rfl, rfl⟩
  · simp only [if_true]
    by_cases hi : 0 ≤ Lib.indexByte l 10
    · rw [if_pos hi]
      go_enter Tryd.func45, Tryd.ntmps45
      go_wp2_with (first | (go_at_call 57; refine (HP.out _).mono ?_; rintro e w' ⟨rfl, rfl⟩) | (go_at_call 58; refine (HI.out _).mono ?_; rintro e w' ⟨rfl, rfl⟩))
      go_ret
      exact ⟨ret_int (by omega), rfl⟩
    · rw [if_neg hi]
      go_enter Tryd.func45, Tryd.ntmps45
      go_wp2_with (first | (go_at_call 57; refine (HP.out _).mono ?_; rintro e w' ⟨rfl, rfl⟩) | (go_at_call 58; refine (HI.out _).mono ?_; rintro e w' ⟨rfl, rfl⟩))
      go_ret
      exact ⟨ret_int (by rw [HL2.out]), rfl⟩
theorem clone47 (s : ByteArray) (w : World) (hs : s.size ≤ 281474976710656) : Calls Tryd.prog 47 #[.string s] w fun e w' => e = .returned (.string s) ∧ Below w.heap.size w w' := by
  have HC : Hid (∀ w, Calls Tryd.prog 64 #[.string s] w fun e w' => e = .returned (.string s) ∧ Below w.heap.size w w') := fun w => Tryd.stringslite_Clone s w hs
  go_enter Tryd.func47, Tryd.ntmps47
  go_wp2_with (go_at_call 64; refine (HC.out _).mono ?_; rintro e w' ⟨rfl, hb⟩; have HB : Hid (Below _ _ w') := hb; clear hb)
  go_ret
  exact ⟨rfl, HB.out⟩
end Go.Proofs.YtgdbfedagdlgkaaDoor
