/- What the program's library leans on; numbers, remarks, copies of texts. The first token of a text, by the program. Whether a text is one token of a kind; names, by the program. -/
import Derived.Test.YtkkmeogehapjoaaGreatDoorAA
import Derived.Test.YtkkmeogehapjoaaGreatDoorShelf
import Derived.Lib.SmallJoins
namespace Go.Proofs.YtkkmeogehapjoaaGreatDoor
section
open Go.RowKit Go.Shelf
/-- The library's tables, as the rows list them. -/
structure Tb (w : World) : Prop where
  syn : ∃ te pe, w.cell? ⟨6, 0, none⟩ = some (.iface te pe)
  rng : ∃ te pe, w.cell? ⟨7, 0, none⟩ = some (.iface te pe)
  utf : Lib.Utf8Tabs 4 5 w
  pow : Lib.TabIs Tryz.prog w "internal/strconv.uint64pow10" .u64 Lib.pow10Tab
  size : 8 ≤ w.heap.size
theorem gPow : Tryz.prog.globalNamed "internal/strconv.uint64pow10" = some 0 := by kernel_rfl
theorem Tb.below {w w' : World} (h : Tb w) {B : Nat} (hb : Below B w w') (hB : w.heap.size ≤ B) : Tb w' := by
  have hb' : Below w.heap.size w w' := hb.mono hB
  have h8 := h.size
  obtain ⟨t1, p1, e1⟩ := h.syn
  obtain ⟨t2, p2, e2⟩ := h.rng
  refine ⟨⟨t1, p1, ?_⟩, ⟨t2, p2, ?_⟩, ?_, Joins.tab_stays gPow h.pow hb' (Nat.le_refl _), by have := hb'.size; omega⟩
  · rw [hb'.cell (p := ⟨6, 0, none⟩) (by show 6 < _; omega)]
    exact e1
  · rw [hb'.cell (p := ⟨7, 0, none⟩) (by show 7 < _; omega)]
    exact e2
  · obtain ⟨u1, u2⟩ := h.utf
    exact ⟨fun i hi => by rw [hb'.cell (p := ⟨4, i, none⟩) (by show 4 < _; omega)]; exact u1 i hi, fun i hi => by
      obtain ⟨a, b⟩ := u2 i hi
      exact ⟨by rw [hb'.cell (p := ⟨5, _, none⟩) (by show 5 < _; omega)]; exact a, by rw [hb'.cell (p := ⟨5, _, none⟩) (by show 5 < _; omega)]; exact b⟩⟩
def nuO (l : List UInt8) : Option Int := match Lib.parseIntB 64 l with
  | .ok v => some v
  | _ => none
theorem below5 {w w1 : World} {o : Obj} (hb : Below (w.alloc o).heap.size (w.alloc o) w1) (v0 v1 v2 v3 v4 : Value) :
    Below w.heap.size w (((((w1.setCell ⟨w.heap.size, 0, none⟩ v0).setCell ⟨w.heap.size, 1, none⟩ v1).setCell ⟨w.heap.size, 2, none⟩ v2).setCell ⟨w.heap.size, 3, none⟩ v3).setCell ⟨w.heap.size, 4, none⟩ v4) :=
  ((((((((Below.refl _ w).alloc (Nat.le_refl _) o).trans (hb.mono (by simp))).setCell (Nat.le_refl _) v0).setCell (Nat.le_refl _) v1).setCell (Nat.le_refl _) v2).setCell (Nat.le_refl _) v3).setCell (Nat.le_refl _) v4)
set_option maxHeartbeats 2000000 in
theorem number61_ok (s : ByteArray) (v : Int) (w : World) (hs : s.size ≤ 281474976710656) (h : nuO s.data.toList = some v) : Calls Tryz.prog 132 #[.string s] w fun e w' => e = .returned (.tuple #[tkv 3 s v 0 0, .int .i64 0]) ∧ Below w.heap.size w w' := by
  have hp : Lib.parseIntB 64 s.data.toList = .ok v := by
    unfold nuO at h
    split at h
    · rename_i x hx
      cases h
      exact hx
    · cases h
  have HC : Hid (∀ W, Calls Tryz.prog 143 #[.string s, .int .i64 10, .int .i64 64] W fun e w' => e = .returned (.tuple #[.int .i64 v, .nilIface]) ∧ Below W.heap.size W w') := fun W => (Tryz.strconv_ParseInt_10_at64_ok s (by omega) v hp W).mono fun e w' ⟨he, hw⟩ => ⟨he, by
    rcases hw with rfl | ⟨t, rfl⟩
    · exact Below.refl _ _
    · exact Joins.below_bytesWorld _ _ _ _ (Nat.le_refl _)⟩
  clear hp h
  unfold tkv
  go_enter Tryz.func132, Tryz.ntmps132
  go_wp2_with fail
  refine (HC.out _).mono ?_
  rintro e w1 ⟨rfl, hb⟩
  have HB : Hid (Below _ _ w1) := hb
  obtain ⟨hc, hf⟩ := bcell hb
  have hz : w.heap.size < w1.heap.size := by have := hb.size; simp at this; omega
  clear hb
  go_wp2
  exact bodyPost_ret (v := .tuple #[.agg #[.int .i64 3, .string s, .int .i64 v, .int .i64 0, .int .i64 0], .int .i64 0]) (by simp [results, Tryz.results132, go_sem, hc]) rfl ⟨rfl, below5 HB.out _ _ _ _ _⟩
set_option maxHeartbeats 2000000 in
theorem number61_no (s : ByteArray) (w : World) (hs : s.size ≤ 281474976710656) (hT : Tb w) (h : nuO s.data.toList = none) : Calls Tryz.prog 132 #[.string s] w fun e w' => e = .returned (.tuple #[tkv 0 s 0 0 0, .int .i64 112]) ∧ Below w.heap.size w w' := by
  have HC : Hid (∀ W, Below w.heap.size w W → Calls Tryz.prog 143 #[.string s, .int .i64 10, .int .i64 64] W fun e w' => ∃ n N, e = .returned (.tuple #[.int .i64 n, .iface 175 (.pointer (some ⟨N, 0, none⟩))]) ∧ Below W.heap.size W w') := fun W hW => by
    have hT' := hT.below hW (Nat.le_refl _)
    obtain ⟨t1, p1, e1⟩ := hT'.syn
    obtain ⟨t2, p2, e2⟩ := hT'.rng
    unfold nuO at h
    split at h
    · cases h
    · rename_i x hx
      cases hq : Lib.parseIntB 64 s.data.toList with
      | ok v => exact absurd hq (hx v)
      | «syntax» => exact (Tryz.strconv_ParseInt_10_at64_syntax s hs hq _ W e1 (.inr ⟨_, _, rfl⟩)).mono fun e w' ⟨N, he, _, _, hb⟩ => ⟨_, N, he, hb⟩
      | range => exact (Tryz.strconv_ParseInt_10_at64_range s hs hq _ W e2 (.inr ⟨_, _, rfl⟩)).mono fun e w' ⟨N, he, _, _, hb⟩ => ⟨_, N, he, hb⟩
  clear hT h
  unfold tkv
  go_enter Tryz.func132, Tryz.ntmps132
  go_wp2_with fail
  refine (HC.out _ ((Below.refl _ w).alloc (Nat.le_refl _) _)).mono ?_
  rintro e w1 ⟨n, N, rfl, hb⟩
  have HB : Hid (Below _ _ w1) := hb
  obtain ⟨hc, hf⟩ := bcell hb
  have hz : w.heap.size < w1.heap.size := by have := hb.size; simp at this; omega
  clear hb
  go_wp2
  exact bodyPost_ret (v := .tuple #[.agg #[.int .i64 0, .string s, .int .i64 0, .int .i64 0, .int .i64 0], .int .i64 112]) (by simp [results, Tryz.results132, go_sem, hc]) rfl ⟨rfl, below5 HB.out _ _ _ _ _⟩
def rmk (l : List UInt8) : Nat := if Lib.hasPrefix l [47, 47] then (if 0 ≤ Lib.indexByte l 10 then (Lib.indexByte l 10).toNat else l.length) else 0
end
section
open Go.RowKit Go.Shelf
set_option maxHeartbeats 2000000 in
theorem first46_num (s : ByteArray) (k v er : Int) (w : World) (hs : s.size ≤ 281474976710656) (hm : 0 < nsz s.data.toList) (hd : dgB (bt s.data.toList 0) = true) (hC : ∀ W, Below w.heap.size w W → Calls Tryz.prog 132 #[.string (s.extract 0 (nsz s.data.toList))] W fun e w' => e = .returned (.tuple #[tkv k (s.extract 0 (nsz s.data.toList)) v 0 0, .int .i64 er]) ∧ Below W.heap.size W w') :
    Calls Tryz.prog 120 #[.string s] w fun e w' => e = .returned (.tuple #[tkv k (s.extract 0 (nsz s.data.toList)) v 0 0, .int .i64 er]) ∧ Below w.heap.size w w' := by
  have hle := nsz_le s.data.toList
  have hL := len_of s
  have h0 : 0 < s.size := by omega
  have hb0 := at_bt s 0 h0
  have HN : Hid (∀ W, Calls Tryz.prog 130 #[.string s] W fun e w' => e = .returned (.int .i64 (nsz s.data.toList)) ∧ w' = W) := fun W => nameSize59 s W (by unfold maxLen; omega)
  have HC : Hid (∀ W, Below w.heap.size w W → Calls Tryz.prog 132 #[.string (s.extract 0 (nsz s.data.toList))] W fun e w' => e = .returned (.tuple #[tkv k (s.extract 0 (nsz s.data.toList)) v 0 0, .int .i64 er]) ∧ Below W.heap.size W w') := hC
  clear hC
  generalize nsz s.data.toList = m at *
  generalize bt s.data.toList 0 = b at *
  unfold tkv at *
  go_enter Tryz.func120, Tryz.ntmps120
  go_wp2_with (first | (go_at_call 130; refine (HN.out _).mono ?_; rintro e w' ⟨rfl, rfl⟩) | (go_at_call 131; refine (isDigit60 _ _).mono ?_; rintro e w' ⟨rfl, rfl⟩) | fail)
  refine (HC.out _ (below_cells _ _ _)).mono ?_
  rintro e w1 ⟨rfl, hb⟩
  have HB : Hid (Below _ _ w1) := hb
  obtain ⟨hc, hf⟩ := bcell hb
  have hz : w.heap.size < w1.heap.size := by have := hb.size; simp at this; omega
  clear hb
  go_wp2
  exact bodyPost_ret (v := .tuple #[.agg #[.int .i64 k, .string (s.extract 0 m), .int .i64 v, .int .i64 0, .int .i64 0], .int .i64 er]) (by simp [results, Tryz.results120, go_sem, hc]) rfl ⟨rfl, below5 HB.out _ _ _ _ _⟩
set_option maxHeartbeats 2000000 in
theorem first46_word (s : ByteArray) (k v er : Int) (w : World) (hs : s.size ≤ 281474976710656) (hm : 0 < nsz s.data.toList) (hd : dgB (bt s.data.toList 0) = false) (hC : ∀ W, Below w.heap.size w W → Calls Tryz.prog 133 #[.string (s.extract 0 (nsz s.data.toList))] W fun e w' => e = .returned (.tuple #[tkv k (s.extract 0 (nsz s.data.toList)) v 0 0, .int .i64 er]) ∧ Below W.heap.size W w') :
    Calls Tryz.prog 120 #[.string s] w fun e w' => e = .returned (.tuple #[tkv k (s.extract 0 (nsz s.data.toList)) v 0 0, .int .i64 er]) ∧ Below w.heap.size w w' := by
  have hle := nsz_le s.data.toList
  have hL := len_of s
  have h0 : 0 < s.size := by omega
  have hb0 := at_bt s 0 h0
  have HN : Hid (∀ W, Calls Tryz.prog 130 #[.string s] W fun e w' => e = .returned (.int .i64 (nsz s.data.toList)) ∧ w' = W) := fun W => nameSize59 s W (by unfold maxLen; omega)
  have HC : Hid (∀ W, Below w.heap.size w W → Calls Tryz.prog 133 #[.string (s.extract 0 (nsz s.data.toList))] W fun e w' => e = .returned (.tuple #[tkv k (s.extract 0 (nsz s.data.toList)) v 0 0, .int .i64 er]) ∧ Below W.heap.size W w') := hC
  clear hC
  generalize nsz s.data.toList = m at *
  generalize bt s.data.toList 0 = b at *
  unfold tkv at *
  go_enter Tryz.func120, Tryz.ntmps120
  go_wp2_with (first | (go_at_call 130; refine (HN.out _).mono ?_; rintro e w' ⟨rfl, rfl⟩) | (go_at_call 131; refine (isDigit60 _ _).mono ?_; rintro e w' ⟨rfl, rfl⟩) | fail)
  refine (HC.out _ (below_cells _ _ _)).mono ?_
  rintro e w1 ⟨rfl, hb⟩
  have HB : Hid (Below _ _ w1) := hb
  obtain ⟨hc, hf⟩ := bcell hb
  have hz : w.heap.size < w1.heap.size := by have := hb.size; simp at this; omega
  clear hb
  go_wp2
  exact bodyPost_ret (v := .tuple #[.agg #[.int .i64 k, .string (s.extract 0 m), .int .i64 v, .int .i64 0, .int .i64 0], .int .i64 er]) (by simp [results, Tryz.results120, go_sem, hc]) rfl ⟨rfl, below5 HB.out _ _ _ _ _⟩
set_option maxHeartbeats 2000000 in
theorem first46_sign (s : ByteArray) (w : World) (hs : s.size ≤ 281474976710656) (hm : nsz s.data.toList = 0) (hg : 0 < sgz s.data.toList) (hg2 : sgz s.data.toList ≤ s.size) :
    Calls Tryz.prog 120 #[.string s] w fun e w' => e = .returned (.tuple #[tkv 4 (s.extract 0 (sgz s.data.toList)) 0 0 0, .int .i64 0]) ∧ Below w.heap.size w w' := by
  have HN : Hid (∀ W, Calls Tryz.prog 130 #[.string s] W fun e w' => e = .returned (.int .i64 (nsz s.data.toList)) ∧ w' = W) := fun W => nameSize59 s W (by unfold maxLen; omega)
  have HG : Hid (∀ W, Calls Tryz.prog 134 #[.string s] W fun e w' => e = .returned (.int .i64 (sgz s.data.toList)) ∧ w' = W) := fun W => signSize63 s W (by unfold maxLen; omega)
  rw [hm] at HN
  clear hm
  generalize sgz s.data.toList = m at *
  unfold tkv at *
  go_enter Tryz.func120, Tryz.ntmps120
  go_wp2_with (first | (go_at_call 130; refine (HN.out _).mono ?_; rintro e w' ⟨rfl, rfl⟩) | (go_at_call 134; refine (HG.out _).mono ?_; rintro e w' ⟨rfl, rfl⟩))
  exact bodyPost_ret (v := .tuple #[.agg #[.int .i64 4, .string (s.extract 0 m), .int .i64 0, .int .i64 0, .int .i64 0], .int .i64 0]) (by simp [results, Tryz.results120, go_sem]) rfl ⟨rfl, below_cells _ _ _⟩
set_option maxHeartbeats 2000000 in
theorem first46_none (s : ByteArray) (w : World) (hT : Tb w) (hs : s.size ≤ 281474976710656) (hm : nsz s.data.toList = 0) (hg : sgz s.data.toList = 0) (hd : (Lib.decodeGo s).2 ≤ s.size) :
    Calls Tryz.prog 120 #[.string s] w fun e w' => e = .returned (.tuple #[tkv 0 (s.extract 0 (Lib.decodeGo s).2) 0 0 0, .int .i64 111]) ∧ Below w.heap.size w w' := by
  have HN : Hid (∀ W, Calls Tryz.prog 130 #[.string s] W fun e w' => e = .returned (.int .i64 (nsz s.data.toList)) ∧ w' = W) := fun W => nameSize59 s W (by unfold maxLen; omega)
  have HG : Hid (∀ W, Calls Tryz.prog 134 #[.string s] W fun e w' => e = .returned (.int .i64 (sgz s.data.toList)) ∧ w' = W) := fun W => signSize63 s W (by unfold maxLen; omega)
  have HD : Hid (∀ W, Below w.heap.size w W → Calls Tryz.prog 135 #[.string s] W fun e w' => e = .returned (.tuple #[.int .i32 (Lib.decodeGo s).1, .int .i64 (Lib.decodeGo s).2]) ∧ Below W.heap.size W w') := fun W hW => Tryz.utf8_DecodeRuneInString s W (hT.below hW (Nat.le_refl _)).utf
  rw [hm] at HN
  rw [hg] at HG
  clear hm hg hT
  generalize (Lib.decodeGo s).2 = m at *
  generalize (Lib.decodeGo s).1 = r at *
  unfold tkv at *
  go_enter Tryz.func120, Tryz.ntmps120
  go_wp2_with (first | (go_at_call 130; refine (HN.out _).mono ?_; rintro e w' ⟨rfl, rfl⟩) | (go_at_call 134; refine (HG.out _).mono ?_; rintro e w' ⟨rfl, rfl⟩) | fail)
  refine (HD.out _ (below_cells _ _ _)).mono ?_
  rintro e w1 ⟨rfl, hb⟩
  have HB : Hid (Below _ _ w1) := hb
  obtain ⟨hc, hf⟩ := bcell hb
  have hz : w.heap.size < w1.heap.size := by have := hb.size; simp at this; omega
  clear hb
  go_wp2
  exact bodyPost_ret (v := .tuple #[.agg #[.int .i64 0, .string (s.extract 0 m), .int .i64 0, .int .i64 0, .int .i64 0], .int .i64 111]) (by simp [results, Tryz.results120, go_sem, hc]) rfl ⟨rfl, below5 HB.out _ _ _ _ _⟩
/-- The first token: its kind, its bytes, its number, what is wrong. -/
def fst (l : List UInt8) (wd : Nat) : Int × Nat × Int × Int :=
  if 0 < nsz l then
    (if dgB (bt l 0) then (match nuO (l.take (nsz l)) with
      | some v => (3, nsz l, v, 0)
      | none => (0, nsz l, 0, 112))
    else (wdK (l.take (nsz l)), nsz l, 0, wdE (l.take (nsz l))))
  else if 0 < sgz l then (4, sgz l, 0, 0) else (0, wd, 0, 111)
theorem sg_le2 (b c : Nat) : sg b c ≤ 2 := by
  unfold sg
  repeat' split
  all_goals omega
theorem sg_zero (b : Nat) : sg b 0 ≤ 1 := by
  unfold sg
  repeat' split
  all_goals omega
theorem sgz_le (l : List UInt8) : sgz l ≤ l.length := by
  unfold sgz
  match l with
  | [] => simp
  | [c] =>
    rw [if_neg (by simp)]
    exact sg_zero _
  | c :: d :: r =>
    rw [if_neg (by simp)]
    have := sg_le2 (bt (c :: d :: r) 0) (bt (c :: d :: r) 1)
    simp only [List.length_cons]
    omega
theorem decode_le (s : ByteArray) : (Lib.decodeGo s).2 ≤ s.size := by
  unfold Lib.decodeGo
  split
  · simp
  · rw [Lib.decode_at]
    unfold Lib.decodeN
    repeat' split
    all_goals simp only
    all_goals omega
theorem first46 (s : ByteArray) (w : World) (hT : Tb w) (hs : s.size ≤ 281474976710656) :
    Calls Tryz.prog 120 #[.string s] w fun e w' => e = .returned (.tuple #[tkv (fst s.data.toList (Lib.decodeGo s).2).1 (s.extract 0 (fst s.data.toList (Lib.decodeGo s).2).2.1) (fst s.data.toList (Lib.decodeGo s).2).2.2.1 0 0, .int .i64 (fst s.data.toList (Lib.decodeGo s).2).2.2.2]) ∧ Below w.heap.size w w' := by
  have hL := len_of s
  have hle := nsz_le s.data.toList
  have hx : (s.extract 0 (nsz s.data.toList)).size ≤ 281474976710656 := by simp; omega
  have hl2 := toList_upto s (nsz s.data.toList)
  unfold fst
  by_cases hm : 0 < nsz s.data.toList
  · rw [if_pos hm]
    cases hd : dgB (bt s.data.toList 0)
    · simp only [Bool.false_eq_true, if_false]
      exact first46_word s _ _ _ w hs hm hd fun W _ => by
        have t := word62 (s.extract 0 (nsz s.data.toList)) W (by unfold maxLen; omega)
        rw [hl2] at t
        exact t
    · simp only [if_true]
      cases hv : nuO (s.data.toList.take (nsz s.data.toList)) with
      | some v => exact first46_num s _ _ _ w hs hm hd fun W _ => number61_ok _ v W hx (by rw [hl2]; exact hv)
      | none => exact first46_num s _ _ _ w hs hm hd fun W hW => number61_no _ W hx (hT.below hW (Nat.le_refl _)) (by rw [hl2]; exact hv)
  · rw [if_neg hm]
    by_cases hg : 0 < sgz s.data.toList
    · rw [if_pos hg]
      exact first46_sign s w hs (by omega) hg (by have := sgz_le s.data.toList; omega)
    · rw [if_neg hg]
      exact first46_none s w hT hs (by omega) (by omega) (decode_le s)
end
section
open Go.RowKit Go.Shelf
def alB (f : Int × Nat × Int × Int) (l : List UInt8) (kind : Int) : Bool := decide (f.2.2.2 = 0) && (decide (f.1 = kind) && (l.take f.2.1 == l))
set_option maxHeartbeats 2000000 in
theorem alone34 (s : ByteArray) (kind : Int) (w : World) (hT : Tb w) (hs : s.size ≤ 281474976710656) :
    Calls Tryz.prog 105 #[.string s, .int .i64 kind] w fun e w' => e = .returned (.bool (alB (fst s.data.toList (Lib.decodeGo s).2) s.data.toList kind)) ∧ Below w.heap.size w w' := by
  have HC : Hid (∀ W, Below w.heap.size w W → _) := fun W hW => first46 s W (hT.below hW (Nat.le_refl _)) hs
  have hl := ByteArray.toList_eq s
  have hx : ∀ n, (s.extract 0 n).toList = s.data.toList.take n := fun n => by rw [ByteArray.toList_eq, toList_upto]
  generalize fst s.data.toList (Lib.decodeGo s).2 = f at *
  obtain ⟨k, n, v, er⟩ := f
  unfold alB
  unfold tkv at HC
  generalize s.data.toList = l at *
  clear hT
  by_cases h1 : er = 0
  · subst h1
    by_cases h2 : k = kind
    · subst h2
      go_enter Tryz.func105, Tryz.ntmps105
      go_wp2_with fail
      refine (HC.out _ (Below.refl _ _)).mono ?_
      rintro e w1 ⟨rfl, hb⟩
      have HB : Hid (Below _ _ w1) := hb
      clear hb
      go_wp2
      go_ret
      exact ⟨ret_bool (by simp), HB.out.alloc HB.out.size _⟩
    · have h2b : (k == kind) = false := by simpa using h2
      go_enter Tryz.func105, Tryz.ntmps105
      go_wp2_with fail
      refine (HC.out _ (Below.refl _ _)).mono ?_
      rintro e w1 ⟨rfl, hb⟩
      have HB : Hid (Below _ _ w1) := hb
      clear hb
      go_wp2
      go_ret
      exact ⟨ret_bool (by simp [h2]), HB.out.alloc HB.out.size _⟩
  · have h1b : (er == 0) = false := by simpa using h1
    go_enter Tryz.func105, Tryz.ntmps105
    go_wp2_with fail
    refine (HC.out _ (Below.refl _ _)).mono ?_
    rintro e w1 ⟨rfl, hb⟩
    have HB : Hid (Below _ _ w1) := hb
    clear hb
    go_wp2
    go_ret
    exact ⟨ret_bool (by simp [h1]), HB.out.alloc HB.out.size _⟩
set_option maxHeartbeats 2000000 in
theorem name15 (s : ByteArray) (w : World) (hT : Tb w) (hs : s.size ≤ 281474976710656) :
    Calls Tryz.prog 82 #[.string s] w fun e w' => e = .returned (.bool (alB (fst s.data.toList (Lib.decodeGo s).2) s.data.toList 1)) ∧ Below w.heap.size w w' := by
  have HC : Hid (∀ W, Below w.heap.size w W → _) := fun W hW => alone34 s 1 W (hT.below hW (Nat.le_refl _)) hs
  generalize alB (fst s.data.toList (Lib.decodeGo s).2) s.data.toList 1 = b at *
  clear hT
  go_enter Tryz.func82, Tryz.ntmps82
  go_wp2_with (go_at_call 105; refine (HC.out _ (Below.refl _ _)).mono ?_; rintro e w1 ⟨rfl, hb⟩; have HB : Hid (Below _ _ w1) := hb; clear hb)
  go_ret
  exact ⟨rfl, HB.out⟩
theorem take_all {l : List UInt8} {n : Nat} : (l.take n == l) = decide (l.length ≤ n) := by
  rw [Bool.eq_iff_iff, beq_iff_eq, decide_eq_true_eq]
  exact ⟨fun h => by have := congrArg List.length h; simp at this; omega, List.take_of_length_le⟩
/-- A text that is one name, by the program, is one by the document. -/
theorem name_same (l : List UInt8) (wd : Nat) : alB (fst l wd) l 1 = nameB l := by
  have hle := nsz_le l
  unfold alB fst nameB spB
  by_cases hm : 0 < nsz l
  · rw [if_pos hm]
    have hne : ¬ l = [] := fun e => by rw [e] at hm; simp [nsz] at hm
    have hne' : (l == []) = false := by simpa using hne
    have h0 := nsz_nm l hm
    cases hd : dgB (bt l 0)
    · have hlt : ltB (bt l 0) = true := by rw [nm_split, hd] at h0; simpa using h0
      simp only [Bool.false_eq_true, if_false, hne', hlt, Bool.not_false, Bool.true_and]
      rw [take_all]
      by_cases hn : nsz l = l.length
      · rw [hn, List.take_length]
        unfold wdK wdE
        by_cases h95 : l = [95]
        · subst h95
          decide
        · have h95' : (l == [95]) = false := by simpa using h95
          rw [if_neg h95, if_neg h95]
          cases hw : wdB l
          · by_cases h64 : 64 < l.length
            · simp [h64]
            · simp [h64, h95']
              omega
          · simp
      · have : ¬ l.length ≤ nsz l := by omega
        simp [hn, this]
    · have hlt : ltB (bt l 0) = false := by
        have t := (dgB_iff _).1 hd
        rw [← Bool.not_eq_true, ltB_iff]
        omega
      simp only [if_true, hlt, Bool.and_false, Bool.false_and]
      cases nuO (l.take (nsz l)) <;> simp
  · rw [if_neg hm]
    have hz : nsz l = 0 := by omega
    have : ¬ (ltB (bt l 0) = true ∧ ¬ l = []) := fun ⟨h1, h2⟩ => by
      have h3 : nmB (bt l (nsz l)) = false := nsz_end l (by rw [hz]; cases l <;> simp_all)
      rw [hz, nm_split, h1, Bool.or_true] at h3
      cases h3
    have e2 : (!(l == []) && !(l == [95]) && ltB (bt l 0)) = false := by
      rw [← Bool.not_eq_true]
      simp only [Bool.and_eq_true, Bool.not_eq_true', beq_eq_false_iff_ne, ne_eq]
      rintro ⟨⟨h1, _⟩, h2⟩
      exact this ⟨h2, h1⟩
    rw [e2]
    by_cases hg : 0 < sgz l
    · rw [if_pos hg]
      simp
    · rw [if_neg hg]
      simp
end
end Go.Proofs.YtkkmeogehapjoaaGreatDoor
