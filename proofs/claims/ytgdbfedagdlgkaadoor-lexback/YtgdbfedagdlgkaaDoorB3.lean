/- Whether a text is one token of a kind; names, by the program. -/
import Derived.Test.YtgdbfedagdlgkaaDoorB2
namespace Go.Proofs.YtgdbfedagdlgkaaDoor
open Go.RowKit Go.Shelf
def alB (f : Int × Nat × Int × Int) (l : List UInt8) (kind : Int) : Bool := decide (f.2.2.2 = 0) && (decide (f.1 = kind) && (l.take f.2.1 == l))
set_option maxHeartbeats 2000000 in
theorem alone34 (s : ByteArray) (kind : Int) (w : World) (hT : Tb w) (hs : s.size ≤ 281474976710656) :
    Calls Tryd.prog 34 #[.string s, .int .i64 kind] w fun e w' => e = .returned (.bool (alB (fst s.data.toList (Lib.decodeGo s).2) s.data.toList kind)) ∧ Below w.heap.size w w' := by
  have HC : Hid (∀ W, Below w.heap.size w W → _) := fun W hW => first46 s W (hT.below hW (Nat.le_refl _)) hs
  have hl := ByteArray.toList_eq s
  have hx : ∀ n, (s.extract 0 n).toList = s.data.toList.take n := fun n => by rw [ByteArray.toList_eq, toList_upto]
  generalize fst s.data.toList (Lib.decodeGo s).2 = f at *
  obtain ⟨k, n, v, er⟩ := f
  unfold alB
  unfold tkv at HC
  generalize s.data.toList = l at *
  clear hT
  by_cases h1 : er = 0
  · subst h1
    by_cases h2 : k = kind
    · subst h2
      go_enter Tryd.func34, Tryd.ntmps34
      go_wp2_with fail
      refine (HC.out _ (Below.refl _ _)).mono ?_
      rintro e w1 ⟨rfl, hb⟩
      have HB : Hid (Below _ _ w1) := hb
      clear hb
      go_wp2
      go_ret
      exact ⟨ret_bool (by simp), HB.out.alloc HB.out.size _⟩
    · have h2b : (k == kind) = false := by simpa using h2
      go_enter Tryd.func34, Tryd.ntmps34
      go_wp2_with fail
      refine (HC.out _ (Below.refl _ _)).mono ?_
      rintro e w1 ⟨rfl, hb⟩
      have HB : Hid (Below _ _ w1) := hb
      clear hb
      go_wp2
      go_ret
      exact ⟨ret_bool (by simp [h2]), HB.out.alloc HB.out.size _⟩
  · have h1b : (er == 0) = false := by simpa using h1
    go_enter Tryd.func34, Tryd.ntmps34
    go_wp2_with fail
    refine (HC.out _ (Below.refl _ _)).mono ?_
    rintro e w1 ⟨rfl, hb⟩
    have HB : Hid (Below _ _ w1) := hb
    clear hb
    go_wp2
    go_ret
    exact ⟨ret_bool (by simp [h1]), HB.out.alloc HB.out.size _⟩
set_option maxHeartbeats 2000000 in
theorem name15 (s : ByteArray) (w : World) (hT : Tb w) (hs : s.size ≤ 281474976710656) :
    Calls Tryd.prog 15 #[.string s] w fun e w' => e = .returned (.bool (alB (fst s.data.toList (Lib.decodeGo s).2) s.data.toList 1)) ∧ Below w.heap.size w w' := by
  have HC : Hid (∀ W, Below w.heap.size w W → _) := fun W hW => alone34 s 1 W (hT.below hW (Nat.le_refl _)) hs
  generalize alB (fst s.data.toList (Lib.decodeGo s).2) s.data.toList 1 = b at *
  clear hT
  go_enter Tryd.func15, Tryd.ntmps15
  go_wp2_with (go_at_call 34; refine (HC.out _ (Below.refl _ _)).mono ?_; rintro e w1 ⟨rfl, hb⟩; have HB : Hid (Below _ _ w1) := hb; clear hb)
  go_ret
  exact ⟨rfl, HB.out⟩
theorem take_all {l : List UInt8} {n : Nat} : (l.take n == l) = decide (l.length ≤ n) := by
  rw [Bool.eq_iff_iff, beq_iff_eq, decide_eq_true_eq]
  exact ⟨fun h => by have := congrArg List.length h; simp at this; omega, List.take_of_length_le⟩
/-- A text that is one name, by the program, is one by the document. -/
theorem name_same (l : List UInt8) (wd : Nat) : alB (fst l wd) l 1 = nameB l := by
  have hle := nsz_le l
  unfold alB fst nameB spB
  by_cases hm : 0 < nsz l
  · rw [if_pos hm]
    have hne : ¬ l = [] := fun e => by rw [e] at hm; simp [nsz] at hm
    have hne' : (l == []) = false := by simpa using hne
    have h0 := nsz_nm l hm
    cases hd : dgB (bt l 0)
    · have hlt : ltB (bt l 0) = true := by rw [nm_split, hd] at h0; simpa using h0
      simp only [Bool.false_eq_true, if_false, hne', hlt, Bool.not_false, Bool.true_and]
      rw [take_all]
      by_cases hn : nsz l = l.length
      · rw [hn, List.take_length]
        unfold wdK wdE
        by_cases h95 : l = [95]
        · subst h95
          decide
        · have h95' : (l == [95]) = false := by simpa using h95
          rw [if_neg h95, if_neg h95]
          cases hw : wdB l
          · by_cases h64 : 64 < l.length
            · simp [h64]
            · simp [h64, h95']
              omega
          · simp
      · have : ¬ l.length ≤ nsz l := by omega
        simp [hn, this]
    · have hlt : ltB (bt l 0) = false := by
        have t := (dgB_iff _).1 hd
        rw [← Bool.not_eq_true, ltB_iff]
        omega
      simp only [if_true, hlt, Bool.and_false, Bool.false_and]
      cases nuO (l.take (nsz l)) <;> simp
  · rw [if_neg hm]
    have hz : nsz l = 0 := by omega
    have : ¬ (ltB (bt l 0) = true ∧ ¬ l = []) := fun ⟨h1, h2⟩ => by
      have h3 : nmB (bt l (nsz l)) = false := nsz_end l (by rw [hz]; cases l <;> simp_all)
      rw [hz, nm_split, h1, Bool.or_true] at h3
      cases h3
    have e2 : (!(l == []) && !(l == [95]) && ltB (bt l 0)) = false := by
      rw [← Bool.not_eq_true]
      simp only [Bool.and_eq_true, Bool.not_eq_true', beq_eq_false_iff_ne, ne_eq]
      rintro ⟨⟨h1, _⟩, h2⟩
      exact this ⟨h2, h1⟩
    rw [e2]
    by_cases hg : 0 < sgz l
    · rw [if_pos hg]
      simp
    · rw [if_neg hg]
      simp
end Go.Proofs.YtgdbfedagdlgkaaDoor
