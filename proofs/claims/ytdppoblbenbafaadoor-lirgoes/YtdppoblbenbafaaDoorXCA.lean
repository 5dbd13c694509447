/- More fuel: the same, or a continuation of it. Rows of bytes, compared. More fuel, the statement's own law: what is refused, and what is out of range. More fuel, the statement's own law: what runs. -/
import Derived.Test.YtdppoblbenbafaaDoorXAY
import Derived.Test.YtdppoblbenbafaaDoorXAN
import Derived.Laws.IdiomStrings
import Derived.Test.YtdppoblbenbafaaDoorXBC
namespace Go.Proofs.YtdppoblbenbafaaDoor
section
open Go.RowKit Go.Shelf
theorem stp_keep {p : List Fun} {s s' : St} {i : Ins} (h : stpS p s i = .inl s') : s'.st = s.st ∧ s.out <+: s'.out := by
  have P0 : s.out <+: s.out := List.prefix_refl _
  unfold stpS at h
  dsimp only at h
  by_cases o1 : i.op = 1
  · rw [if_pos o1] at h; cases h; exact ⟨rfl, P0⟩
  rw [if_neg o1] at h
  by_cases o2 : i.op = 2
  · rw [if_pos o2] at h; cases h; exact ⟨rfl, P0⟩
  rw [if_neg o2] at h
  by_cases o3 : i.op = 3
  · rw [if_pos o3] at h; cases h; exact ⟨rfl, P0⟩
  rw [if_neg o3] at h
  by_cases o4 : i.op = 4
  · rw [if_pos o4] at h
    split at h
    · cases h; exact ⟨rfl, P0⟩
    · cases h
  rw [if_neg o4] at h
  by_cases o5 : i.op = 5
  · rw [if_pos o5] at h
    split at h
    · cases h; exact ⟨rfl, P0⟩
    · cases h
  rw [if_neg o5] at h
  by_cases o6 : i.op = 6
  · rw [if_pos o6] at h; cases h; exact ⟨rfl, P0⟩
  rw [if_neg o6] at h
  by_cases o7 : i.op = 7
  · rw [if_pos o7] at h
    unfold calS at h
    simp only [] at h
    split at h
    · cases h; exact ⟨rfl, List.prefix_append _ _⟩
    split at h
    · cases h; exact ⟨rfl, P0⟩
    split at h
    · split at h
      · cases h
      · cases h; exact ⟨rfl, P0⟩
    split at h
    · split at h
      · cases h; exact ⟨rfl, P0⟩
      · cases h
    · cases h; exact ⟨rfl, P0⟩
  rw [if_neg o7] at h
  by_cases o8 : i.op = 8
  · rw [if_pos o8] at h; cases h; exact ⟨rfl, P0⟩
  rw [if_neg o8] at h
  by_cases o9 : i.op = 9
  · rw [if_pos o9] at h; cases h; exact ⟨rfl, P0⟩
  rw [if_neg o9] at h
  by_cases o10 : i.op = 10
  · rw [if_pos o10] at h
    unfold bakS at h
    simp only [] at h
    split at h
    · cases h
    · cases h; exact ⟨rfl, P0⟩
  rw [if_neg o10] at h
  cases h
theorem stp_stop {p : List Fun} {s : St} {i : Ins} {o : Oc} (h : stpS p s i = .inr o) : o.out = s.out := by
  unfold stpS at h
  dsimp only at h
  by_cases o1 : i.op = 1
  · rw [if_pos o1] at h; cases h
  rw [if_neg o1] at h
  by_cases o2 : i.op = 2
  · rw [if_pos o2] at h; cases h
  rw [if_neg o2] at h
  by_cases o3 : i.op = 3
  · rw [if_pos o3] at h; cases h
  rw [if_neg o3] at h
  by_cases o4 : i.op = 4
  · rw [if_pos o4] at h
    split at h
    · cases h
    · cases h; rfl
  rw [if_neg o4] at h
  by_cases o5 : i.op = 5
  · rw [if_pos o5] at h
    split at h
    · cases h
    · cases h; rfl
  rw [if_neg o5] at h
  by_cases o6 : i.op = 6
  · rw [if_pos o6] at h; cases h
  rw [if_neg o6] at h
  by_cases o7 : i.op = 7
  · rw [if_pos o7] at h
    unfold calS at h
    simp only [] at h
    split at h
    · cases h
    split at h
    · cases h
    split at h
    · split at h
      · cases h; rfl
      · cases h
    split at h
    · split at h
      · cases h
      · cases h; rfl
    · cases h
  rw [if_neg o7] at h
  by_cases o8 : i.op = 8
  · rw [if_pos o8] at h; cases h
  rw [if_neg o8] at h
  by_cases o9 : i.op = 9
  · rw [if_pos o9] at h; cases h
  rw [if_neg o9] at h
  by_cases o10 : i.op = 10
  · rw [if_pos o10] at h
    unfold bakS at h
    simp only [] at h
    split at h
    · cases h; rfl
    · cases h
  rw [if_neg o10] at h
  cases h
  rfl
/-- A run goes on from where it is. -/
theorem run_from (p : List Fun) : ∀ (n : Nat) (s : St), s.st ≤ (runS p n s).st ∧ (runS p n s).st ≤ s.st + n ∧ s.out <+: (runS p n s).out
  | 0, s => ⟨Nat.le_refl _, Nat.le_refl _, List.prefix_refl _⟩
  | n + 1, s => by
    rw [runS]
    cases insAt p s.top with
    | none => exact ⟨Nat.le_refl _, Nat.le_add_right _ _, List.prefix_refl _⟩
    | some i =>
      dsimp only
      cases hd : depB s i with
      | true => rw [if_pos rfl]; exact ⟨Nat.le_refl _, Nat.le_add_right _ _, List.prefix_refl _⟩
      | false =>
        rw [if_neg (by decide)]
        cases hs : stpS p { s with st := s.st + 1 } i with
        | inl s' =>
          obtain ⟨k1, k2⟩ := stp_keep hs
          obtain ⟨j1, j2, j3⟩ := run_from p n s'
          have k1' : s'.st = s.st + 1 := k1
          have k2' : s.out <+: s'.out := k2
          exact ⟨by show s.st ≤ (runS p n s').st; omega, by show (runS p n s').st ≤ _; omega, k2'.trans j3⟩
        | inr o =>
          have k1 : o.st = s.st + 1 := (stp_end hs).2
          have k2 : o.out = s.out := by have t := stp_stop hs; exact t
          exact ⟨by show s.st ≤ o.st; omega, by show o.st ≤ _; omega, by show s.out <+: o.out; rw [k2]; exact List.prefix_refl _⟩
/-- More fuel. -/
theorem run_more (p : List Fun) (m : Nat) : ∀ (n : Nat) (s : St), ((runS p n s).en = 2 ∨ runS p (n + m) s = runS p n s) ∧ (runS p n s).st ≤ (runS p (n + m) s).st ∧ (runS p n s).out <+: (runS p (n + m) s).out
  | 0, s => by
    obtain ⟨j1, j2, j3⟩ := run_from p (0 + m) s
    exact ⟨.inl rfl, j1, j3⟩
  | n + 1, s => by
    rw [show n + 1 + m = (n + m) + 1 by omega, runS, runS]
    cases insAt p s.top with
    | none => exact ⟨.inr rfl, Nat.le_refl _, List.prefix_refl _⟩
    | some i =>
      dsimp only
      cases hd : depB s i with
      | true => rw [if_pos rfl, if_pos rfl]; exact ⟨.inr rfl, Nat.le_refl _, List.prefix_refl _⟩
      | false =>
        rw [if_neg (by decide), if_neg (by decide)]
        cases hs : stpS p { s with st := s.st + 1 } i with
        | inl s' => exact run_more p m n s'
        | inr o => exact ⟨.inr rfl, Nat.le_refl _, List.prefix_refl _⟩
theorem runP_more (p : List Fun) (l : List UInt8) (n m : Nat) : ((runP p l n).en = 2 ∨ runP p l (n + m) = runP p l n) ∧ (runP p l n).st ≤ (runP p l (n + m)).st ∧ (runP p l n).out <+: (runP p l (n + m)).out ∧ (runP p l n).st ≤ n := by
  obtain ⟨h1, h2, h3⟩ := run_more p m n (s0 p l)
  obtain ⟨_, h4, _⟩ := run_from p n (s0 p l)
  exact ⟨h1, h2, h3, by have : (s0 p l).st = 0 := rfl; show (runS p n (s0 p l)).st ≤ n; omega⟩
end
section
open Go.RowKit Go.Shelf
/-- A row of bytes that can be read. -/
def BytV (W : World) (v : Value) (l : List UInt8) : Prop := ∃ a c, v = .slice a l.length c ∧ l.length ≤ c ∧ c ≤ maxLen ∧ (a = none → c = 0) ∧ ∀ A, a = some A → ∃ g o, A = ⟨g, o, none⟩ ∧ ∀ (j : Nat) (b : UInt8), l[j]? = some b → W.cell? ⟨g, o + j, none⟩ = some (.int .u8 b.toNat)
theorem BytV.below {W W' : World} {v : Value} {l : List UInt8} (h : BytV W v l) (hb : Below W.heap.size W W') : BytV W' v l := by
  obtain ⟨a, c, e, h1, h2, h3, h4⟩ := h
  refine ⟨a, c, e, h1, h2, h3, fun A hA => ?_⟩
  obtain ⟨g, o, e2, h5⟩ := h4 A hA
  exact ⟨g, o, e2, fun j b hj => (World.cell?_of_block (hb.block g (World.block_lt_of_cell? _ _ (h5 j b hj)))).trans (h5 j b hj)⟩
theorem byt_own {W : World} {B : Nat} {v : Value} {l : List UInt8} (h : W.ownsRow B 5 1 v l.length (Lib.byteCells l)) : BytV W v l := by
  have hO := h
  obtain ⟨hn, ⟨e, h0⟩ | ⟨g, cap, cur, e, _, hg, h1, h2, _, h4⟩⟩ := h
  · have : l = [] := List.length_eq_zero_iff.1 h0
    subst this
    exact ⟨none, 0, e, Nat.le_refl _, Nat.zero_le _, fun _ => rfl, fun A h => by cases h⟩
  · refine ⟨_, cap, e, h1, h2, (fun h => by cases h), fun A hA => ?_⟩
    cases hA
    refine ⟨g, 0, rfl, fun j b hj => ?_⟩
    rw [Nat.zero_add]
    exact own_cell hO e (by simp [Lib.byteCells, hj])
theorem byt_str {W : World} {v : Value} {l : List UInt8} (h : BytV W v l) : (convert 23 9 v).run Tryd.prog W = .ok (.string ⟨l.toArray⟩) W := by
  obtain ⟨a, c, rfl, h1, h2, h3, h4⟩ := h
  cases a with
  | none =>
    have h3 := h3 rfl
    have : l = [] := List.length_eq_zero_iff.1 (by omega)
    subst this
    show (convert 23 9 (.slice none 0 c)).run Tryd.prog W = _
    rw [run_convert_bytes_string W 23 9 5 none 0 c Tryd.underlying23 Tryd.underlying5 Tryd.underlying9]
    simp [Conv.bytesToString]
    rfl
  | some A =>
    obtain ⟨g, o, rfl, h5⟩ := h4 A rfl
    exact run_convert_bytes_back W 23 9 5 ⟨g, o, none⟩ c l Tryd.underlying23 Tryd.underlying5 Tryd.underlying9 (fun j hj => by rw [Addr.add_lit]; exact h5 j _ (List.getElem?_eq_getElem hj))
/-- A beginning of a row. -/
theorem BytV.pre {W : World} {a : Option Addr} {n c : Nat} {l l1 : List UInt8} (h : BytV W (.slice a n c) l) (hp : l1 <+: l) : BytV W (.slice a l1.length c) l1 := by
  obtain ⟨a', c', e, h1, h2, h3, h4⟩ := h
  cases e
  refine ⟨a, c, rfl, Nat.le_trans hp.length_le h1, h2, h3, fun A hA => ?_⟩
  obtain ⟨g, o, e2, h5⟩ := h4 A hA
  refine ⟨g, o, e2, fun j b hj => h5 j b ?_⟩
  obtain ⟨t, rfl⟩ := hp
  rw [List.getElem?_append_left (List.getElem?_eq_some_iff.1 hj).1]
  exact hj
theorem below_two (o1 o2 : Obj) (w : World) : Below w.heap.size w ((w.alloc o1).alloc o2) := by
  have h : Below w.heap.size w (w.alloc o1) := (Below.refl _ _).alloc (Nat.le_refl _) o1
  exact h.alloc h.size o2
set_option maxRecDepth 20000 in
set_option maxHeartbeats 4000000 in
/-- The same bytes. -/
theorem same15 (l : List UInt8) (a b : Value) (w : World) (ha : BytV w a l) (hb : BytV w b l) : Calls Tryd.prog 15 #[a, b] w fun e w' => e = .returned (.bool true) ∧ w' = w := by
  have h1 := byt_str ha
  have h2 := byt_str hb
  clear ha hb
  go_enter Tryd.func15, Tryd.ntmps15
  go_wp2
  go_ret
  exact ⟨rfl, rfl⟩
set_option maxRecDepth 20000 in
set_option maxHeartbeats 4000000 in
/-- A beginning of bytes. -/
theorem begin11 (l1 l2 : List UInt8) (aa ba : Option Addr) (ac bc : Nat) (w : World) (ha : BytV w (.slice aa l1.length ac) l1) (hb : BytV w (.slice ba l2.length bc) l2) (hp : l1 <+: l2) : Calls Tryd.prog 11 #[.slice aa l1.length ac, .slice ba l2.length bc] w fun e w' => e = .returned (.bool true) ∧ Below w.heap.size w w' := by
  have hle : l1.length ≤ l2.length := hp.length_le
  have hd : Below w.heap.size w w.drew := (Below.refl _ _).drew
  have h1 := byt_str (ha.below hd)
  have h2 := byt_str ((hb.pre hp).below hd)
  have hc : l2.length ≤ bc ∧ bc ≤ 9223372036854775807 := by
    obtain ⟨_, _, e, k1, k2, _⟩ := hb
    cases e
    exact ⟨k1, by unfold maxLen at k2; omega⟩
  have h0 : ba = none → bc = 0 := by
    obtain ⟨_, _, e, _, _, k3, _⟩ := hb
    cases e
    exact k3
  obtain ⟨n1, e1⟩ : ∃ n, n = l1.length := ⟨_, rfl⟩
  obtain ⟨n2, e2⟩ : ∃ n, n = l2.length := ⟨_, rfl⟩
  rw [← e1] at hle h1 h2 ⊢
  rw [← e2] at hle hc ⊢
  obtain ⟨hc1, hc2⟩ := hc
  clear ha hb hp e1 e2 hd
  cases ba with
  | none =>
    have := h0 rfl
    subst this
    obtain rfl : n2 = 0 := by omega
    obtain rfl : n1 = 0 := by omega
    clear h0
    go_enter Tryd.func11, Tryd.ntmps11
    go_wp2
    go_region
    go_wp2
    go_ret
    exact ⟨rfl, by first | exact (Below.refl _ _).drew | exact Below.refl _ _⟩
  | some A =>
    clear h0
    go_enter Tryd.func11, Tryd.ntmps11
    go_wp2
    go_region
    go_wp2
    go_ret
    exact ⟨rfl, by first | exact (Below.refl _ _).drew | exact Below.refl _ _⟩
set_option maxRecDepth 20000 in
set_option maxHeartbeats 4000000 in
/-- The same outcomes. -/
theorem same10 (l : List UInt8) (x y z : Int) (a b : Value) (w : World) (ha : BytV w a l) (hb : BytV w b l) : Calls Tryd.prog 10 #[.agg #[.int .i64 x, .int .i64 y, a, .int .i64 z], .agg #[.int .i64 x, .int .i64 y, b, .int .i64 z]] w fun e w' => e = .returned (.bool true) ∧ Below w.heap.size w w' := by
  have HK : Hid (∀ W, Below w.heap.size w W → Calls Tryd.prog 15 #[a, b] W fun e w' => e = .returned (.bool true) ∧ w' = W) := fun W h => same15 l a b W (ha.below h) (hb.below h)
  clear ha hb
  go_enter Tryd.func10, Tryd.ntmps10
  go_wp2_with fail
  refine (HK.out _ (below_two _ _ w)).mono ?_
  rintro e w1 ⟨rfl, rfl⟩
  go_wp2
  go_ret
  exact ⟨rfl, below_two _ _ w⟩
end
section
open Go.RowKit Go.Shelf
set_option maxRecDepth 20000 in
set_option maxHeartbeats 4000000 in
theorem more_out (pp iv : Option Addr) (m pc n ic : Nat) (fuel extra : Int) (w : World) (hT : Tfa w) (ho : fuel < 0 ∨ extra < 0 ∨ 262144 < fuel ∨ 262144 < extra) : Calls Tryd.prog 5 #[.slice pp m pc, .slice iv n ic, .int .i64 fuel, .int .i64 extra] w fun e w' => e = .returned (.bool true) ∧ Below w.heap.size w w' := by
  have HS : Hid (Calls Tryd.prog 9 #[] w fun e w' => e = .returned (.bool true) ∧ Below w.heap.size w w') := speaks6 w (tfaTf hT)
  clear hT
  by_cases h1 : fuel < 0
  · clear ho
    go_enter Tryd.func5, Tryd.ntmps5
    go_wp2_with fail
    refine HS.out.mono ?_
    rintro e w1 ⟨rfl, hb⟩
    have HB : Hid (Below w.heap.size w w1) := hb
    clear hb
    go_wp2
    go_ret
    exact ⟨rfl, HB.out⟩
  by_cases h2 : extra < 0
  · clear ho
    go_enter Tryd.func5, Tryd.ntmps5
    go_wp2_with fail
    refine HS.out.mono ?_
    rintro e w1 ⟨rfl, hb⟩
    have HB : Hid (Below w.heap.size w w1) := hb
    clear hb
    go_wp2
    go_ret
    exact ⟨rfl, HB.out⟩
  by_cases h3 : 262144 < fuel
  · clear ho
    go_enter Tryd.func5, Tryd.ntmps5
    go_wp2_with fail
    refine HS.out.mono ?_
    rintro e w1 ⟨rfl, hb⟩
    have HB : Hid (Below w.heap.size w w1) := hb
    clear hb
    go_wp2
    go_ret
    exact ⟨rfl, HB.out⟩
  have h4 : 262144 < extra := by omega
  clear ho
  go_enter Tryd.func5, Tryd.ntmps5
  go_wp2_with fail
  refine HS.out.mono ?_
  rintro e w1 ⟨rfl, hb⟩
  have HB : Hid (Below w.heap.size w w1) := hb
  clear hb
  go_wp2
  go_ret
  exact ⟨rfl, HB.out⟩
set_option maxRecDepth 20000 in
set_option maxHeartbeats 4000000 in
theorem more_err (p : List Fun) (pp iv : Option Addr) (pc n ic k m : Nat) (w : World) (hT : Tfa w) (hI : FunA w pp pc p) (hk : k ≤ 262144) (hm : m ≤ 262144) (he : ¬ errV p n k = 0) (he2 : errV p n ((k : Int) + m) = errV p n k) : Calls Tryd.prog 5 #[.slice pp p.length pc, .slice iv n ic, .int .i64 k, .int .i64 m] w fun e w' => e = .returned (.bool true) ∧ Below w.heap.size w w' := by
  have HR : Hid (∀ W, Below w.heap.size w W → Calls Tryd.prog 7 #[.slice pp p.length pc, .slice iv n ic, .int .i64 k] W fun e w' => e = .returned (.tuple #[.agg #[.int .i64 0, .int .i64 0, .slice none 0 0, .int .i64 0], .int .i64 (errV p n k)]) ∧ Below W.heap.size W w') := fun W hb => run_err p pp iv pc n ic k W (hT.below hb) (hI.below hb) he
  have HR2 : Hid (∀ W, Below w.heap.size w W → Calls Tryd.prog 7 #[.slice pp p.length pc, .slice iv n ic, .int .i64 ((k : Int) + m)] W fun e w' => e = .returned (.tuple #[.agg #[.int .i64 0, .int .i64 0, .slice none 0 0, .int .i64 0], .int .i64 (errV p n k)]) ∧ Below W.heap.size W w') := fun W hb => by
    have t := run_err p pp iv pc n ic ((k : Int) + m) W (hT.below hb) (hI.below hb) (by rw [he2]; exact he)
    rw [he2] at t
    exact t
  have HS : Hid (∀ W, Below w.heap.size w W → Calls Tryd.prog 9 #[] W fun e w' => e = .returned (.bool true) ∧ Below W.heap.size W w') := fun W hb => speaks6 W (tfaTf (hT.below hb))
  generalize errV p n k = E at *
  obtain ⟨pl, hpl⟩ : ∃ m, m = p.length := ⟨_, rfl⟩
  rw [← hpl] at HR HR2 ⊢
  have ek1 : ¬ (k : Int) < 0 := by omega
  have ek2 : ¬ (m : Int) < 0 := by omega
  have ek3 : ¬ (262144 : Int) < k := by omega
  have ek4 : ¬ (262144 : Int) < m := by omega
  have ew : IntKind.i64.wrap ((k : Int) + m) = (k : Int) + m := wrapI _ (by omega) (by omega)
  have he' : (E == 0) = false := by simpa using he
  clear hT hI hpl he2
  go_enter Tryd.func5, Tryd.ntmps5
  go_wp2_with fail
  refine (HR.out w (Below.refl _ _)).mono ?_
  rintro e w2 ⟨rfl, hb⟩
  have HB2 : Hid (Below w.heap.size w w2) := hb
  have HB3 : Hid (Below w.heap.size w (w2.alloc (.cells #[.int .i64 0, .int .i64 0, .slice none 0 0, .int .i64 0] 30))) := HB2.out.alloc HB2.out.size _
  clear hb
  go_wp2_with fail
  refine (HR2.out _ HB3.out).mono ?_
  rintro e w3 ⟨rfl, hb⟩
  have HB4 : Hid (Below w.heap.size w w3) := HB3.out.trans (hb.mono HB3.out.size)
  have HB5 : Hid (Below w.heap.size w (w3.alloc (.cells #[.int .i64 0, .int .i64 0, .slice none 0 0, .int .i64 0] 30))) := HB4.out.alloc HB4.out.size _
  clear hb
  go_wp2_with fail
  refine (HS.out _ HB5.out).mono ?_
  rintro e w4 ⟨rfl, hb⟩
  have HB6 : Hid (Below w.heap.size w w4) := HB5.out.trans (hb.mono HB5.out.size)
  clear hb
  go_wp2
  go_ret
  exact ⟨rfl, HB6.out⟩
end
section
open Go.RowKit Go.Shelf
theorem own_slice {W : World} {B n : Nat} {v : Value} {xs : List Value} (h : W.ownsRow B 5 1 v n xs) : ∃ g c, v = .slice g n c := by
  obtain ⟨_, ⟨e, h0⟩ | ⟨g9, cap9, cur9, e, _⟩⟩ := h
  · exact ⟨_, _, by rw [e, h0]⟩
  · exact ⟨_, _, e⟩
set_option maxRecDepth 20000 in
set_option maxHeartbeats 4000000 in
theorem more_ok (p : List Fun) (pp iv : Option Addr) (pc ic k m : Nat) (l : List UInt8) (w : World) (hT : Tfa w) (hP : PwT w) (hp : PrF p) (hI : FunA w pp pc p) (hiv : InV w w (.slice iv l.length ic) l) (hl : l.length ≤ 65536) (hk : k ≤ 262144) (hm : m ≤ 262144) : Calls Tryd.prog 5 #[.slice pp p.length pc, .slice iv l.length ic, .int .i64 k, .int .i64 m] w fun e w' => e = .returned (.bool true) ∧ Below w.heap.size w w' := by
  have hR : ∀ f : Nat, f ≤ 524288 → ∀ W, Below w.heap.size w W → Calls Tryd.prog 7 #[.slice pp p.length pc, .slice iv l.length ic, .int .i64 f] W fun e w' => ∃ ov, e = .returned (.tuple #[.agg #[.int .i64 (runP p l f).en, .int .i64 (runP p l f).cd, ov, .int .i64 ((runP p l f).st : Nat)], .int .i64 0]) ∧ w'.ownsRow W.heap.size 5 1 ov (runP p l f).out.length (Lib.byteCells (runP p l f).out) ∧ Below W.heap.size W w' := fun f hf W hb => run_ok p pp iv pc ic f l W (hT.below hb) (fun w' h => hP w' (hb.trans (h.mono hb.size))) hp (hI.below hb) (by
    obtain ⟨a, c, e1, e2, e3⟩ := hiv
    cases e1
    refine ⟨_, _, rfl, e2, fun h0 => ?_⟩
    obtain ⟨g9, o9, e4, e5, e6⟩ := e3 h0
    exact ⟨g9, o9, e4, Nat.lt_of_lt_of_le e5 hb.size, fun j b hj => (World.cell?_of_block (hb.block g9 e5)).trans (e6 j b hj)⟩) hl hf
  have HR : Hid _ := hR k (by omega)
  have HR2 : Hid _ := hR (k + m) (by omega)
  have HS : Hid (∀ W, Below w.heap.size w W → Calls Tryd.prog 9 #[] W fun e w' => e = .returned (.bool true) ∧ Below W.heap.size W w') := fun W hb => speaks6 W (tfaTf (hT.below hb))
  obtain ⟨g1, g2, g3, g4⟩ := runP_more p l k m
  have ec : (((k + m : Nat)) : Int) = (k : Int) + m := by omega
  rw [ec] at HR2
  have HG : Hid (((runP p l k).en = 2 ∨ runP p l (k + m) = runP p l k) ∧ (runP p l k).out <+: (runP p l (k + m)).out) := ⟨g1, g3⟩
  have q1 : ((runP p l k).st : Int) ≤ k := by omega
  have q2 : ((runP p l k).st : Int) ≤ ((runP p l (k + m)).st : Nat) := by omega
  generalize runP p l (k + m) = O2 at *
  generalize runP p l k = O at *
  obtain ⟨pl, hpl⟩ : ∃ m, m = p.length := ⟨_, rfl⟩
  obtain ⟨n, hn⟩ : ∃ n, n = l.length := ⟨_, rfl⟩
  rw [← hpl, ← hn] at HR HR2
  rw [← hpl, ← hn]
  have ek1 : ¬ (k : Int) < 0 := by omega
  have ek2 : ¬ (m : Int) < 0 := by omega
  have ek3 : ¬ (262144 : Int) < k := by omega
  have ek4 : ¬ (262144 : Int) < m := by omega
  have ew : IntKind.i64.wrap ((k : Int) + m) = (k : Int) + m := wrapI _ (by omega) (by omega)
  clear hT hI hpl hn hP hp hiv hl hk hm hR g1 g2 g3 g4 ec
  go_enter Tryd.func5, Tryd.ntmps5
  go_wp2_with fail
  refine (HR.out w (Below.refl _ _)).mono ?_
  rintro e w2 ⟨ov, rfl, hown, hb⟩
  obtain ⟨ag, ac, rfl⟩ := own_slice hown
  have HB2 : Hid (Below w.heap.size w w2) := hb
  have HA2 : Hid (BytV w2 (.slice ag O.out.length ac) O.out) := byt_own hown
  have hb3 : Below w2.heap.size w2 (w2.alloc (.cells #[.int .i64 O.en, .int .i64 O.cd, .slice ag O.out.length ac, .int .i64 ((O.st : Nat) : Int)] 30)) := (Below.refl _ _).alloc (Nat.le_refl _) _
  have HB3 : Hid (Below w.heap.size w (w2.alloc (.cells #[.int .i64 O.en, .int .i64 O.cd, .slice ag O.out.length ac, .int .i64 ((O.st : Nat) : Int)] 30))) := HB2.out.alloc HB2.out.size _
  have HA3 : Hid (BytV (w2.alloc (.cells #[.int .i64 O.en, .int .i64 O.cd, .slice ag O.out.length ac, .int .i64 ((O.st : Nat) : Int)] 30)) (.slice ag O.out.length ac) O.out) := HA2.out.below hb3
  have HX3 : Hid (Cl (w2.alloc (.cells #[.int .i64 O.en, .int .i64 O.cd, .slice ag O.out.length ac, .int .i64 ((O.st : Nat) : Int)] 30)) w2.heap.size [.int .i64 O.en, .int .i64 O.cd, .slice ag O.out.length ac, .int .i64 ((O.st : Nat) : Int)]) := Cl.new w2 [.int .i64 O.en, .int .i64 O.cd, .slice ag O.out.length ac, .int .i64 ((O.st : Nat) : Int)] 30
  clear hb hown HR hb3 HA2
  go_wp2_with fail
  refine (HR2.out _ HB3.out).mono ?_
  rintro e w3 ⟨ov, rfl, hown, hb⟩
  obtain ⟨bg, bc, rfl⟩ := own_slice hown
  have HB4 : Hid (Below w.heap.size w w3) := HB3.out.trans (hb.mono HB3.out.size)
  have hb5 : Below w3.heap.size w3 (w3.alloc (.cells #[.int .i64 O2.en, .int .i64 O2.cd, .slice bg O2.out.length bc, .int .i64 ((O2.st : Nat) : Int)] 30)) := (Below.refl _ _).alloc (Nat.le_refl _) _
  have HB5 : Hid (Below w.heap.size w (w3.alloc (.cells #[.int .i64 O2.en, .int .i64 O2.cd, .slice bg O2.out.length bc, .int .i64 ((O2.st : Nat) : Int)] 30))) := HB4.out.alloc HB4.out.size _
  have HA5 : Hid (BytV (w3.alloc (.cells #[.int .i64 O2.en, .int .i64 O2.cd, .slice bg O2.out.length bc, .int .i64 ((O2.st : Nat) : Int)] 30)) (.slice ag O.out.length ac) O.out) := (HA3.out.below hb).below hb5
  have HY5 : Hid (BytV (w3.alloc (.cells #[.int .i64 O2.en, .int .i64 O2.cd, .slice bg O2.out.length bc, .int .i64 ((O2.st : Nat) : Int)] 30)) (.slice bg O2.out.length bc) O2.out) := (byt_own hown).below hb5
  have hX := (HX3.out.below hb).below hb5
  have hY : Cl (w3.alloc (.cells #[.int .i64 O2.en, .int .i64 O2.cd, .slice bg O2.out.length bc, .int .i64 ((O2.st : Nat) : Int)] 30)) w3.heap.size [.int .i64 O2.en, .int .i64 O2.cd, .slice bg O2.out.length bc, .int .i64 ((O2.st : Nat) : Int)] := Cl.new w3 [.int .i64 O2.en, .int .i64 O2.cd, .slice bg O2.out.length bc, .int .i64 ((O2.st : Nat) : Int)] 30
  clear hb hown HR2 hb5 HA3 HX3
  have HX : Hid (Cl (w3.alloc (.cells #[.int .i64 O2.en, .int .i64 O2.cd, .slice bg O2.out.length bc, .int .i64 ((O2.st : Nat) : Int)] 30)) w2.heap.size [.int .i64 O.en, .int .i64 O.cd, .slice ag O.out.length ac, .int .i64 ((O.st : Nat) : Int)]) := hX
  have HY : Hid (Cl (w3.alloc (.cells #[.int .i64 O2.en, .int .i64 O2.cd, .slice bg O2.out.length bc, .int .i64 ((O2.st : Nat) : Int)] 30)) w3.heap.size [.int .i64 O2.en, .int .i64 O2.cd, .slice bg O2.out.length bc, .int .i64 ((O2.st : Nat) : Int)]) := hY
  clear hY
  have x0 := hX.cell (j := 0) rfl
  have x1 := hX.cell (j := 1) rfl
  have x2 := hX.cell (j := 2) rfl
  have x3 := hX.cell (j := 3) rfl
  by_cases h2 : O.en = 2
  · have h2' : (O.en == 2) = true := by simpa using h2
    have HP : Hid (O.out <+: O2.out) := HG.out.2
    clear HG
    go_wp2_with fail
    refine (begin11 O.out O2.out ag bg ac bc _ HA5.out HY5.out HP.out).mono ?_
    rintro e w4 ⟨rfl, hb⟩
    have HB6 : Hid (Below w.heap.size w w4) := HB5.out.trans (hb.mono HB5.out.size)
    have y3 := (HX.out.below hb).cell (j := 3) rfl
    have z3 := (HY.out.below hb).cell (j := 3) rfl
    clear hb x0 x1 x2 x3 hX HX HY HA5 HY5
    go_wp2_with fail
    refine (HS.out _ HB6.out).mono ?_
    rintro e w5 ⟨rfl, hb⟩
    have HB7 : Hid (Below w.heap.size w w5) := HB6.out.trans (hb.mono HB6.out.size)
    clear hb
    go_wp2
    go_ret
    exact ⟨rfl, HB7.out⟩
  · obtain rfl : O2 = O := by
      rcases HG.out.1 with h | h
      · exact absurd h h2
      · exact h
    have h2' : (O2.en == 2) = false := by simpa using h2
    clear HG
    go_wp2_with fail
    refine (same10 O2.out O2.en O2.cd ((O2.st : Nat) : Int) (.slice ag O2.out.length ac) (.slice bg O2.out.length bc) _ HA5.out HY5.out).mono ?_
    rintro e w4 ⟨rfl, hb⟩
    have HB6 : Hid (Below w.heap.size w w4) := HB5.out.trans (hb.mono HB5.out.size)
    clear hb x0 x1 x2 x3 hX HX HY HA5 HY5
    go_wp2_with fail
    refine (HS.out _ HB6.out).mono ?_
    rintro e w5 ⟨rfl, hb⟩
    have HB7 : Hid (Below w.heap.size w w5) := HB6.out.trans (hb.mono HB6.out.size)
    clear hb
    go_wp2
    go_ret
    exact ⟨rfl, HB7.out⟩
theorem law5 (p : List Fun) (pp iv : Option Addr) (pc ic : Nat) (fuel extra : Int) (l : List UInt8) (w : World) (hT : Tfa w) (hP : PwT w) (hn : N64 p) (hI : FunA w pp pc p) (hiv : InV w w (.slice iv l.length ic) l) : Calls Tryd.prog 5 #[.slice pp p.length pc, .slice iv l.length ic, .int .i64 fuel, .int .i64 extra] w fun e w' => e = .returned (.bool true) ∧ Below w.heap.size w w' := by
  by_cases ho : fuel < 0 ∨ extra < 0 ∨ 262144 < fuel ∨ 262144 < extra
  · exact more_out pp iv p.length pc l.length ic fuel extra w hT ho
  obtain ⟨k, rfl⟩ : ∃ k : Nat, fuel = k := ⟨fuel.toNat, by omega⟩
  obtain ⟨m, rfl⟩ : ∃ m : Nat, extra = m := ⟨extra.toNat, by omega⟩
  by_cases he : errV p l.length k = 0
  · have hp : prB p = true := by
      cases hb : prB p with
      | true => rfl
      | false => simp [errV, hb] at he
    have hl : ¬ 65536 < l.length := fun h => by simp [errV, hp, h] at he
    exact more_ok p pp iv pc ic k m l w hT hP ⟨hp, hn, fun x hx => (hI.2.2.1 x hx).1⟩ hI hiv (by omega) (by omega) (by omega)
  · refine more_err p pp iv pc l.length ic k m w hT hI (by omega) (by omega) he ?_
    unfold errV
    rw [if_neg (show ¬ (k : Int) < 0 by omega), if_neg (show ¬ (k : Int) + m < 0 by omega)]
set_option maxRecDepth 20000 in
set_option maxHeartbeats 4000000 in
/-- The statement itself: its case's four fields. -/
theorem law3 (p : List Fun) (pp iv : Option Addr) (pc ic : Nat) (fuel extra : Int) (l : List UInt8) (w : World) (hT : Tfa w) (hP : PwT w) (hn : N64 p) (hI : FunA w pp pc p) (hiv : InV w w (.slice iv l.length ic) l) : Calls Tryd.prog 3 #[.agg #[.slice pp p.length pc, .slice iv l.length ic, .int .i64 fuel, .int .i64 extra]] w fun e w' => e = .returned (.bool true) ∧ Below w.heap.size w w' := by
  have HK : Hid (∀ W, Below w.heap.size w W → Calls Tryd.prog 5 #[.slice pp p.length pc, .slice iv l.length ic, .int .i64 fuel, .int .i64 extra] W fun e w' => e = .returned (.bool true) ∧ Below W.heap.size W w') := fun W hb => law5 p pp iv pc ic fuel extra l W (hT.below hb) (fun w' h => hP w' (hb.trans (h.mono hb.size))) hn (hI.below hb) (by
    obtain ⟨a, c, e1, e2, e3⟩ := hiv
    cases e1
    refine ⟨_, _, rfl, e2, fun h0 => ?_⟩
    obtain ⟨g9, o9, e4, e5, e6⟩ := e3 h0
    exact ⟨g9, o9, e4, Nat.lt_of_lt_of_le e5 hb.size, fun j b hj => (World.cell?_of_block (hb.block g9 e5)).trans (e6 j b hj)⟩)
  obtain ⟨pl, hpl⟩ : ∃ m, m = p.length := ⟨_, rfl⟩
  obtain ⟨n, hnl⟩ : ∃ n, n = l.length := ⟨_, rfl⟩
  rw [← hpl, ← hnl] at HK
  rw [← hpl, ← hnl]
  clear hT hP hI hiv hpl hnl hn
  have HB : Hid (Below w.heap.size w (w.alloc (.cells #[.slice pp pl pc, .slice iv n ic, .int .i64 fuel, .int .i64 extra] 25))) := (Below.refl _ _).alloc (Nat.le_refl _) _
  go_enter Tryd.func3, Tryd.ntmps3
  go_wp2_with fail
  refine (HK.out _ HB.out).mono ?_
  rintro e w1 ⟨rfl, hb⟩
  have HB2 : Hid (Below w.heap.size w w1) := HB.out.trans (hb.mono HB.out.size)
  clear hb
  go_wp2
  go_ret
  exact ⟨rfl, HB2.out⟩
end
end Go.Proofs.YtdppoblbenbafaaDoor
