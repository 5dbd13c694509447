/- Two builders side by side. Two builders side by side: written to, and read. A type's text: the program's. A type's text: the program's walk. Type: the program's, of whatever tree. Parts and types: the law. -/
import Derived.Test.YtkkmeogehapjoaaGreatDoorPX
import Derived.Shelf.Strings.Builder1
import Derived.Test.YtkkmeogehapjoaaGreatDoorKK
namespace Go.Proofs.YtkkmeogehapjoaaGreatDoor
section
open Go.RowKit Go.Shelf
/-- A builder in a box of its own, whose bytes lie in v. -/
def Bu (B b : Nat) (v : Value) (bs : List Value) (w : World) : Prop := ∃ p, (p = .pointer none ∨ p = .pointer (some ⟨b, 0, none⟩)) ∧ B ≤ b ∧ w.heap[b]? = some (.cells #[p, v] 58 (0, 0)) ∧ w.ownsRow B 5 1 v bs.length bs ∧ v.ownBlock ≠ some b
theorem Bu.is {B b : Nat} {v : Value} {bs : List Value} {w : World} (h : Bu B b v bs w) : Lib.IsBuilder 58 5 B b bs w := by
  obtain ⟨p, hp, h1, h2, h3, h4⟩ := h
  rcases hp with rfl | rfl
  · exact .inl ⟨h1, v, h2, h3, h4⟩
  · exact .inr ⟨h1, v, h2, h3, h4⟩
theorem Bu.keep {B b : Nat} {v : Value} {bs : List Value} {w w' : World} (h : Bu B b v bs w) (h1 : w'.heap[b]? = w.heap[b]?) (h2 : ∀ g, v.ownBlock = some g → w'.heap[g]? = w.heap[g]?) : Bu B b v bs w' := by
  obtain ⟨p, hp, e1, e2, e3, e4⟩ := h
  exact ⟨p, hp, e1, h1.trans e2, own_keep e3 h2, e4⟩
theorem bcheckV (B b : Nat) (v : Value) (bs : List Value) (w : World) (h : Bu B b v bs w) : Calls Tryz.prog 90 #[.pointer (some ⟨b, 0, none⟩)] w fun e w' => e = .returned (.tuple #[]) ∧ w'.heap[b]? = some (.cells #[.pointer (some ⟨b, 0, none⟩), v] 58 (0, 0)) ∧ w'.ownsRow B 5 1 v bs.length bs ∧ Below B w w' ∧ ∀ i, i ≠ b → w'.heap[i]? = w.heap[i]? := by
  obtain ⟨p, hp, hB, hbk, hown, hne⟩ := h
  rcases hp with rfl | rfl
  · refine (bcheck_fresh b w (Joins.cell_of_block hbk 0) (by simp [World.shape?, hbk]) (Lib.frozen_of_heap hbk 0)).mono ?_
    rintro e w' ⟨rfl, rfl⟩
    refine ⟨rfl, ?_, own_keep hown (fun g hg => ?_), (Below.refl B w).setCell (p := ⟨b, 0, none⟩) hB _, fun i hi => set_other (Ne.symm hi)⟩
    · simp only [World.setCell, Array.getElem?_modify, if_true, hbk, Option.map_some]
      rfl
    · exact set_other (fun e => hne (by rw [hg, e]))
  · refine (bcheck_used b w (Joins.cell_of_block hbk 0)).mono ?_
    rintro e w' ⟨rfl, rfl⟩
    exact ⟨rfl, hbk, hown, Below.refl B _, fun _ _ => rfl⟩
set_option maxRecDepth 100000 in
set_option maxHeartbeats 4000000 in
theorem bwriteV (B b : Nat) (v : Value) (bs : List Value) (s : ByteArray) (w : World) (h : Bu B b v bs w) (hlen : bs.length + s.size ≤ 140737488355328) (hBw : B ≤ w.heap.size) : Calls Tryz.prog 63 #[.pointer (some ⟨b, 0, none⟩), .string s] w fun e w' => e = .returned (.tuple #[.int .i64 s.size, .nilIface]) ∧ (∃ v', Bu B b v' (bs ++ Lib.strCells s) w') ∧ Below B w w' ∧ ∀ i, i < w.heap.size → i ≠ b → v.ownBlock ≠ some i → w'.heap[i]? = w.heap[i]? := by
  obtain ⟨i0, hi, hz0, hz1, hz2⟩ := info_parts info5
  have hB0 : B ≤ b := h.choose_spec.2.1
  have hne : v.ownBlock ≠ some b := h.choose_spec.2.2.2.2
  go_enter Tryz.func63, Tryz.ntmps63
  go_wp2_with (go_at_call 90; refine (bcheckV B b v bs _ h).mono ?_)
  rintro e w1 ⟨rfl, hbk, hown, hb1, hsame⟩
  have c0 : w1.cell? ⟨b, 0, none⟩ = some (.pointer (some ⟨b, 0, none⟩)) := Joins.cell_of_block hbk 0
  have c1 : w1.cell? ⟨b, 1, none⟩ = some v := Joins.cell_of_block hbk 1
  have hsz := hb1.size
  go_wp2_with (at_builtin; refine Lib.wpList_append_own_string _ rfl _ _ 56 9 rfl B 5 i0 Tryz.underlying56 Tryz.underlying9 hi hz0 hz1 hz2 _ _ _ rfl hown s rfl (by unfold maxLen; omega) (by omega) (by omega) ?_)
  intro v' w2 hown' hgrow _
  have hlt : b < w1.heap.size := (Array.getElem?_eq_some_iff.1 hbk).1
  have hb2 : w2.heap[b]? = some (.cells #[.pointer (some ⟨b, 0, none⟩), v] 58 (0, 0)) := by
    rw [hgrow.block b hlt (fun e => hne e.symm)]
    exact hbk
  have d0 : w2.cell? ⟨b, 0, none⟩ = some (.pointer (some ⟨b, 0, none⟩)) := Joins.cell_of_block hb2 0
  have d1 : w2.cell? ⟨b, 1, none⟩ = some v := Joins.cell_of_block hb2 1
  have f1 : w2.frozen? ⟨b, 1, none⟩ = false := Lib.frozen_of_heap hb2 1
  have hne' : v'.ownBlock ≠ some b := Lib.ownBlock_ne hown' hb2 (by decide)
  obtain ⟨ao, n', cap, rfl⟩ := own_slice hown'
  go_wp2
  go_ret2
  refine ⟨rfl, ⟨_, _, .inr rfl, hB0, ?_, own_keep (w := w2) (by simpa [Lib.strCells_length] using hown') (fun g hg => set_other (fun e => hne' (by rw [hg, e]))), hne'⟩, (hb1.grown hgrow (by omega) (fun k hk => (hown.lt k hk).1)).setCell (p := ⟨b, 1, none⟩) hB0 _, fun i h1 h2 h3 => ?_⟩
  · simp only [World.setCell, Array.getElem?_modify, if_true, hb2, Option.map_some]
    rfl
  · rw [set_other (Ne.symm h2), hgrow.block i (by omega) (Ne.symm h3), hsame i h2]
set_option maxRecDepth 100000 in
set_option maxHeartbeats 4000000 in
theorem bstringV (B b : Nat) (v : Value) (l : List UInt8) (w : World) (h : Bu B b v (Lib.byteCells l) w) (h0 : l ≠ []) : Calls Tryz.prog 27 #[.pointer (some ⟨b, 0, none⟩)] w fun e w' => e = .returned (.string ⟨l.toArray⟩) ∧ Below B w w' ∧ ∀ i, v.ownBlock ≠ some i → w'.heap[i]? = w.heap[i]? := by
  obtain ⟨p, hp, hB, hbk, hown, hne⟩ := h
  have hl0 : l.length ≠ 0 := by simpa using h0
  have hbl : (Lib.byteCells l).length = l.length := by simp [Lib.byteCells]
  rw [hbl] at hown
  obtain ⟨g, cap, cur, rfl, hbg, hg, hnc, hcm, hcs, htake⟩ : ∃ g cap cur, v = .slice (some ⟨g, 0, none⟩) l.length cap ∧ B ≤ g ∧ w.heap[g]? = some (.cells cur 5 (0, 0)) ∧ l.length ≤ cap ∧ cap ≤ maxLen ∧ cur.size = cap * 1 ∧ cur.toList.take (l.length * 1) = Lib.byteCells l := by
    rcases hown.2 with ⟨_, hz⟩ | ⟨g, cap, cur, hv, r⟩
    · exact absurd hz hl0
    · exact ⟨g, cap, cur, hv, r⟩
  have c1 : w.drew.cell? ⟨b, 1, none⟩ = some (.slice (some ⟨g, 0, none⟩) l.length cap) := by
    have : w.drew.heap[b]? = some (.cells #[p, .slice (some ⟨g, 0, none⟩) l.length cap] 58 (0, 0)) := hbk
    rw [Lib.cell_of_heap this]; rfl
  have hSD : (Builtin.unsafeSliceData_ #[56] 93 #[.slice (some ⟨g, 0, none⟩) l.length cap]).run Tryz.prog w.drew = .ok (.pointer (some ⟨g, 0, none⟩)) w.drew :=
    Lib.run_unsafeSliceData_row _ _ _ _ _ _ (by omega)
  have hUS : (Builtin.unsafeString_ #[93, 3] 9 #[.pointer (some ⟨g, 0, none⟩), .int .i64 l.length]).run Tryz.prog w.drew = .ok (.string ⟨l.toArray⟩) (w.drew.freeze ⟨g, 0, none⟩ l.length) := by
    refine Lib.run_unsafeString_row w.drew 93 3 9 5 Tryz.underlying93 cells5 g cur.size (by have hg' : w.drew.heap[g]? = some (.cells cur 5 (0, 0)) := hg; simp [World.shape?, hg']) l h0 (by omega) (by unfold maxLen at hcm; omega) ?_
    intro j x hx
    have := hown.cells (g := g) rfl j (.int .u8 x.toNat) (by simp [Lib.byteCells, hx])
    exact this
  have HF : Hid (∀ i, i ≠ g → (w.drew.freeze ⟨g, 0, none⟩ l.length).heap[i]? = w.heap[i]?) := fun i hi => by
    unfold World.freeze
    split
    · rfl
    · simp only [Array.getElem?_modify]
      rw [if_neg (show ¬ g = i from Ne.symm hi)]
      rfl
  have mixed : Tryz.prog.follows Departure.mixedOrders = true := by kernel_rfl
  clear hown hne htake hbk hg hcs hcm
  go_enter Tryz.func27, Tryz.ntmps27
  go_wp2
  go_region_o
  all_goals (go_wp2; go_ret; exact ⟨rfl, Lib.below_freeze (Below.drew (Below.refl B w)) (p := ⟨g, 0, none⟩) hbg _, fun i hi => HF.out i (fun e => hi (by rw [e]; rfl))⟩)
/-- Two rows of bytes that begin otherwise are two rows. -/
theorem rows_apart {w : World} {B B' : Nat} {v v' : Value} {a b : Value} {r r' : List Value} {n n' : Nat} (h : w.ownsRow B 5 1 v n (a :: r)) (h' : w.ownsRow B' 5 1 v' n' (b :: r')) (hab : a ≠ b) : ∀ g, v.ownBlock = some g → v'.ownBlock ≠ some g := by
  intro g hg hg'
  have hn : 0 < n := by have := h.1; simp at this; omega
  have hn' : 0 < n' := by have := h'.1; simp at this; omega
  obtain ⟨_, ⟨e, _⟩ | ⟨g1, cap, cur, rfl, _⟩⟩ := id h
  · rw [e] at hg; cases hg
  obtain ⟨_, ⟨e, _⟩ | ⟨g2, cap2, cur2, rfl, _⟩⟩ := id h'
  · rw [e] at hg'; cases hg'
  cases hg
  cases hg'
  have t1 := h.cellAt 0 (by omega)
  have t2 := h'.cellAt 0 (by omega)
  rw [t1] at t2
  simp at t2
  exact hab t2
end
section
open Go.RowKit Go.Shelf
structure TwoB (w : World) (b1 b2 : Nat) (A C : List UInt8) (wx : World) : Prop where
  bl : Below w.heap.size w wx
  one : ∃ v, Bu w.heap.size b1 v (Lib.byteCells A) wx ∧ (A = [] → v = .slice none 0 0)
  two : ∃ v, Bu w.heap.size b2 v (Lib.byteCells C) wx ∧ (C = [] → v = .slice none 0 0)
  ne : b1 ≠ b2
  fa : ∀ x r, A = x :: r → x ≠ 62
  fc : ∀ x r, C = x :: r → x = 62
theorem TwoB.start (w : World) : TwoB w w.heap.size (w.heap.size + 1) [] [] ((w.alloc (.cells #[.pointer none, .slice none 0 0] 58)).alloc (.cells #[.pointer none, .slice none 0 0] 58)) := by
  have h2 := Go.heap_alloc_new (w.alloc (.cells #[.pointer none, .slice none 0 0] 58)) (.cells #[.pointer none, .slice none 0 0] 58)
  have hz : (w.alloc (.cells #[.pointer none, .slice none 0 0] 58)).heap.size = w.heap.size + 1 := by simp
  rw [hz] at h2
  have h1 : ((w.alloc (.cells #[.pointer none, .slice none 0 0] 58)).alloc (.cells #[.pointer none, .slice none 0 0] 58)).heap[w.heap.size]? = some (.cells #[.pointer none, .slice none 0 0] 58 (0, 0)) := by
    rw [Lib.alloc_old _ _ _ (by rw [hz]; omega)]
    exact Go.heap_alloc_new w _
  refine ⟨((Below.refl _ w).alloc (Nat.le_refl _) _).alloc (by simp) _, ⟨_, ⟨_, .inl rfl, Nat.le_refl _, h1, World.ownsRow_nil _ _ _ _, (by intro e; cases e)⟩, fun _ => rfl⟩, ⟨_, ⟨_, .inl rfl, by omega, h2, World.ownsRow_nil _ _ _ _, (by intro e; cases e)⟩, fun _ => rfl⟩, by omega, fun x r e => (by cases e), fun x r e => (by cases e)⟩
theorem u8_ne {x y : UInt8} (h : x ≠ y) : Value.int .u8 (x.toNat : Int) ≠ Value.int .u8 (y.toNat : Int) := by
  intro e
  simp only [Value.int.injEq, true_and] at e
  exact h (UInt8.toNat_inj.1 (by omega))
theorem TwoB.apart {w : World} {b1 b2 : Nat} {A C : List UInt8} {wx : World} (h : TwoB w b1 b2 A C wx) {v1 v2 : Value} (h1 : Bu w.heap.size b1 v1 (Lib.byteCells A) wx) (e1 : A = [] → v1 = .slice none 0 0) (h2 : Bu w.heap.size b2 v2 (Lib.byteCells C) wx) (e2 : C = [] → v2 = .slice none 0 0) : ∀ g, v1.ownBlock = some g → v2.ownBlock ≠ some g := by
  intro g hg hg2
  obtain ⟨_, _, _, _, o1, _⟩ := h1
  obtain ⟨_, _, _, _, o2, _⟩ := h2
  match hA : A, hC : C with
  | [], _ => rw [e1 rfl] at hg; cases hg
  | _ :: _, [] => rw [e2 rfl] at hg2; cases hg2
  | a :: r, c :: s =>
    have ha := h.fa a r rfl
    have hc := h.fc c s rfl
    exact rows_apart o1 o2 (u8_ne (by rw [hc]; exact ha)) g hg hg2
theorem Bu.box {B b : Nat} {v : Value} {bs : List Value} {w : World} (h : Bu B b v bs w) : (∃ p, w.heap[b]? = some (.cells #[p, v] 58 (0, 0))) ∧ w.ownsRow B 5 1 v bs.length bs := by
  obtain ⟨p, _, _, h1, h2, _⟩ := h
  exact ⟨⟨p, h1⟩, h2⟩
theorem two_write1 {w : World} {b1 b2 : Nat} {A C : List UInt8} {wx : World} (h : TwoB w b1 b2 A C wx) (s : ByteArray) (x : UInt8) (r : List UInt8) (hs : s.data.toList = x :: r) (hx : x ≠ 62) (hlen : A.length + s.size ≤ 140737488355328) : Calls Tryz.prog 63 #[.pointer (some ⟨b1, 0, none⟩), .string s] wx fun e w' => e = .returned (.tuple #[.int .i64 s.size, .nilIface]) ∧ TwoB w b1 b2 (A ++ s.data.toList) C w' ∧ Kept b1 wx w' := by
  obtain ⟨v1, u1, n1⟩ := h.one
  obtain ⟨v2, u2, n2⟩ := h.two
  have hap := h.apart u1 n1 u2 n2
  obtain ⟨⟨p1, k1⟩, o1⟩ := u1.box
  obtain ⟨⟨p2, k2⟩, o2⟩ := u2.box
  refine (bwriteV _ b1 v1 _ s wx u1 (by rw [Lib.byteCells_length]; exact hlen) h.bl.size).mono ?_
  rintro e w' ⟨rfl, ⟨v', u'⟩, hb, hk⟩
  rw [Lib.strCells_eq, ← Lib.byteCells_append] at u'
  refine ⟨rfl, ⟨h.bl.trans hb, ⟨v', u', fun e => ?_⟩, ⟨v2, u2.keep ?_ (fun g hg => ?_), n2⟩, h.ne, fun y q e => ?_, h.fc⟩, fun i cs T fr hi hT hne => ?_⟩
  · rw [hs] at e; simp at e
  · exact hk b2 (Array.getElem?_eq_some_iff.1 k2).1 (Ne.symm h.ne) (fun e => Lib.ownBlock_ne o1 k2 (by decide) e)
  · obtain ⟨cur, e1, _, e3⟩ := own_block o2 hg
    refine hk g e3 (fun e => ?_) (fun e => hap g e hg)
    rw [e, k1] at e1
    cases e1
  · rw [hs] at e
    match hA : A, e with
    | [], e => simp at e; rw [← e.1]; exact hx
    | a :: t, e => simp at e; rw [← e.1]; exact h.fa a t rfl
  · exact hk i (Array.getElem?_eq_some_iff.1 hi).1 hne (fun e => Lib.ownBlock_ne o1 hi hT e)
theorem two_write2 {w : World} {b1 b2 : Nat} {A C : List UInt8} {wx : World} (h : TwoB w b1 b2 A C wx) (hlen : C.length + 1 ≤ 140737488355328) : Calls Tryz.prog 63 #[.pointer (some ⟨b2, 0, none⟩), .string ⟨#[62]⟩] wx fun e w' => e = .returned (.tuple #[.int .i64 1, .nilIface]) ∧ TwoB w b1 b2 A (C ++ [62]) w' ∧ Kept b2 wx w' := by
  obtain ⟨v1, u1, n1⟩ := h.one
  obtain ⟨v2, u2, n2⟩ := h.two
  have hap := h.apart u1 n1 u2 n2
  obtain ⟨⟨p1, k1⟩, o1⟩ := u1.box
  obtain ⟨⟨p2, k2⟩, o2⟩ := u2.box
  refine (bwriteV _ b2 v2 _ ⟨#[62]⟩ wx u2 (by rw [Lib.byteCells_length]; exact hlen) h.bl.size).mono ?_
  rintro e w' ⟨rfl, ⟨v', u'⟩, hb, hk⟩
  have e62 : Lib.strCells ⟨#[62]⟩ = Lib.byteCells [62] := rfl
  rw [e62, ← Lib.byteCells_append] at u'
  refine ⟨rfl, ⟨h.bl.trans hb, ⟨v1, u1.keep ?_ (fun g hg => ?_), n1⟩, ⟨v', u', fun e => ?_⟩, h.ne, h.fa, fun y q e => ?_⟩, fun i cs T fr hi hT hne => ?_⟩
  · exact hk b1 (Array.getElem?_eq_some_iff.1 k1).1 h.ne (fun e => Lib.ownBlock_ne o2 k1 (by decide) e)
  · obtain ⟨cur, e1, _, e3⟩ := own_block o1 hg
    refine hk g e3 (fun e => ?_) (fun e => hap g hg e)
    rw [e, k2] at e1
    cases e1
  · simp at e
  · match hC : C, e with
    | [], e => simp at e; exact e.1.symm
    | a :: t, e => simp at e; rw [← e.1]; exact h.fc a t rfl
  · exact hk i (Array.getElem?_eq_some_iff.1 hi).1 hne (fun e => Lib.ownBlock_ne o2 hi hT e)
theorem two_string1 {w : World} {b1 b2 : Nat} {A C : List UInt8} {wx : World} (h : TwoB w b1 b2 A C wx) (hA : A ≠ []) : Calls Tryz.prog 27 #[.pointer (some ⟨b1, 0, none⟩)] wx fun e w' => e = .returned (.string ⟨A.toArray⟩) ∧ Below w.heap.size w w' ∧ Lib.IsBuilder 58 5 w.heap.size b2 (Lib.byteCells C) w' := by
  obtain ⟨v1, u1, n1⟩ := h.one
  obtain ⟨v2, u2, n2⟩ := h.two
  have hap := h.apart u1 n1 u2 n2
  obtain ⟨⟨p1, k1⟩, o1⟩ := u1.box
  obtain ⟨⟨p2, k2⟩, o2⟩ := u2.box
  refine (bstringV _ b1 v1 A wx u1 hA).mono ?_
  rintro e w' ⟨rfl, hb, hk⟩
  exact ⟨rfl, h.bl.trans hb, (u2.keep (hk b2 (fun e => Lib.ownBlock_ne o1 k2 (by decide) e)) (fun g hg => hk g (fun e => hap g e hg))).is⟩
theorem string2 {w : World} {b2 : Nat} {C : List UInt8} {wx : World} (hb : Below w.heap.size w wx) (h : Lib.IsBuilder 58 5 w.heap.size b2 (Lib.byteCells C) wx) : Calls Tryz.prog 27 #[.pointer (some ⟨b2, 0, none⟩)] wx fun e w' => e = .returned (.string ⟨C.toArray⟩) ∧ Below w.heap.size w w' :=
  (Tryz.Builder_String_any w.heap.size b2 C wx h hb.size).mono fun _ _ ⟨p, q⟩ => ⟨p, hb.trans q⟩
end
section
open Go.RowKit Go.Shelf
theorem TwoB.alloc {w : World} {b1 b2 : Nat} {A C : List UInt8} {wx : World} (h : TwoB w b1 b2 A C wx) (o : Obj) : TwoB w b1 b2 A C (wx.alloc o) := by
  have kp : ∀ {b : Nat} {v : Value} {bs : List Value}, Bu w.heap.size b v bs wx → Bu w.heap.size b v bs (wx.alloc o) := fun u => by
    obtain ⟨⟨p, k⟩, ow⟩ := u.box
    refine u.keep (Lib.alloc_old _ _ _ (Array.getElem?_eq_some_iff.1 k).1) (fun g hg => ?_)
    obtain ⟨_, _, _, e3⟩ := own_block ow hg
    exact Lib.alloc_old _ _ _ e3
  obtain ⟨v1, u1, n1⟩ := h.one
  obtain ⟨v2, u2, n2⟩ := h.two
  exact ⟨h.bl.alloc h.bl.size o, ⟨v1, kp u1, n1⟩, ⟨v2, kp u2, n2⟩, h.ne, h.fa, h.fc⟩
theorem ba_app (A C : List UInt8) (t : ByteArray) (h : A ++ C = t.data.toList) : (⟨A.toArray⟩ : ByteArray) ++ ⟨C.toArray⟩ = t := by
  apply ByteArray.ext
  rw [ByteArray.data_append]
  show A.toArray ++ C.toArray = t.data
  rw [List.append_toArray, h]
def lfS (x : Nd) : ByteArray := if x.k = 10 then ⟨#[105, 54, 52]⟩ else if x.k = 11 then ⟨#[98, 111, 111, 108]⟩ else if x.k = 12 then ⟨#[40, 41]⟩ else x.nm
theorem tyF_leaf {l : List Nd} {n : Nat} {x : Nd} (hx : l[n]? = some x) (hc : x.k = 10 ∨ x.k = 11 ∨ x.k = 12 ∨ x.k = 13) (f : Nat) : tyF l (f + 1) n = lfS x := by
  rw [tyF.eq_def]
  unfold lfS
  simp only [hx]
  rcases hc with e | e | e | e <;> simp [e]
theorem lf_first {l : List Nd} {x : Nd} (hn : nodB l x = true) (hc : x.k = 10 ∨ x.k = 11 ∨ x.k = 12 ∨ x.k = 13) : ∃ y r, (lfS x).data.toList = y :: r ∧ y ≠ 62 := by
  unfold lfS
  rcases hc with e | e | e | e <;> simp only [e]
  · exact ⟨105, _, rfl, by decide⟩
  · exact ⟨98, _, rfl, by decide⟩
  · exact ⟨40, _, rfl, by decide⟩
  · unfold nodB at hn
    simp only [Bool.and_eq_true] at hn
    have hf := hn.2.2.1
    rw [e] at hf
    have hf2 : nameB x.nm.data.toList = true := hf
    unfold nameB spB at hf2
    simp only [Bool.and_eq_true] at hf2
    obtain ⟨⟨⟨⟨⟨h1, _⟩, h2⟩, _⟩, _⟩, _⟩ := hf2
    match hl : x.nm.data.toList with
    | [] => rw [hl] at h1; simp at h1
    | y :: r =>
      refine ⟨y, r, by simp, fun e => ?_⟩
      rw [hl, ltB_iff] at h2
      rw [e] at h2
      have : bt ((62 : UInt8) :: r) 0 = 62 := rfl
      omega
end
section
open Go.RowKit Go.Shelf
theorem right_nod {l : List Nd} (hr : rightB l = true) {n : Nat} {x : Nd} (hx : l[n]? = some x) : nodB l x = true := by
  obtain ⟨p, hp, _⟩ := right_par hr
  unfold rightB at hr
  split at hr
  · cases hr
  · rw [hp] at hr
    simp only [Bool.and_eq_true, List.all_eq_true] at hr
    exact hr.2.2 x (List.mem_of_getElem? hx)
/-- What is asked of a round that ends the text. -/
def TyI (l : List Nd) (n k : Nat) (A C : List UInt8) : Prop := A ++ (tyF l (k + 1) k).data.toList ++ C = (tyF l (n + 1) n).data.toList ∧ A.length + C.length ≤ 5 * (n - k) ∧ C = List.replicate C.length 62
theorem TyI.over {l : List Nd} (hr : rightB l = true) {n k z : Nat} {x y : Nd} {A C : List UInt8} (h : TyI l n k A C) (hkn : k ≤ n) (hx : l[k]? = some x) (hc : x.k = 14 ∨ x.k = 15 ∨ x.k = 16) (hks : x.ks = [(z : Int)]) (hz : z < k) (hy : l[z]? = some y) (hty : tyB y.k = true) : (x.k = 14 → TyI l n z (A ++ [38]) C) ∧ (x.k = 15 → TyI l n z (A ++ [38, 109, 117, 116, 32]) C) ∧ (x.k = 16 → TyI l n z (A ++ [66, 111, 120, 60]) (C ++ [62])) := by
  obtain ⟨h1, h2, h3⟩ := h
  rw [tyF_over hx hc hks k, tyF_more hr z k y hy hty hz] at h1
  refine ⟨fun e => ⟨?_, by simp; omega, h3⟩, fun e => ⟨?_, by simp; omega, h3⟩, fun e => ⟨?_, by simp; omega, ?_⟩⟩
  · rw [← h1, if_pos e, ByteArray.data_append]
    simp
  · rw [← h1, if_neg (by omega), if_pos e, ByteArray.data_append]
    simp
  · rw [← h1, if_neg (by omega), if_neg (by omega), ByteArray.data_append, ByteArray.data_append]
    have h4 : C ++ [62] = [62] ++ C := by
      have h5 := h3
      generalize C.length = q at h5
      subst h5
      rw [← List.replicate_succ', List.replicate_succ]
      rfl
    rw [h4]
    simp
  · rw [List.length_append, List.length_singleton, List.replicate_succ']
    exact congrArg (· ++ [62]) h3
set_option maxRecDepth 100000 in
set_option maxHeartbeats 4000000 in
theorem text38 (l : List Nd) (ao : Option Addr) (c n : Nat) (w : World) (x0 : Nd) (hl : NdA w ao c l) (hr : rightB l = true) (hx0 : l[n]? = some x0) (ht0 : tyB x0.k = true) : Calls Tryz.prog 38 #[.slice ao l.length c, .int .i64 n] w fun e w' => e = .returned (.string (tyF l (n + 1) n)) ∧ Below w.heap.size w w' := by
  have hlen := (right_len hr).2
  have hn : n < l.length := (List.getElem?_eq_some_iff.1 hx0).1
  have HL : Hid (NdA w ao c l) := hl
  have HR : Hid (rightB l = true) := hr
  have hnc : l.length ≤ c := hl.1
  have hc2 : c ≤ 9223372036854775807 := hl.2.1
  have c53 := cells53
  have c3 := cells3'
  have HX0 : Hid (l[n]? = some x0 ∧ tyB x0.k = true) := ⟨hx0, ht0⟩
  have HZ : Hid (∀ f k, (tyF l f k).size ≤ 5 * f + 4294967280) := fun f k => tyF_size l (fun q hq => (hl.2.2.1 q hq).nm) f k
  have HS : Hid (TwoB w w.heap.size (w.heap.size + 1) [] [] ((w.alloc (.cells #[.pointer none, .slice none 0 0] 58)).alloc (.cells #[.pointer none, .slice none 0 0] 58))) := TwoB.start w
  obtain ⟨m, hm⟩ : ∃ m, m = l.length := ⟨_, rfl⟩
  rw [← hm] at hn hlen hnc ⊢
  have HM : Hid (m = l.length) := hm
  obtain ⟨gn, on, he, hnd⟩ := hl.2.2.2 (by omega)
  have HN : Hid (∀ i x, l[i]? = some x → ∀ j y, (ndc x)[j]? = some y → w.cell? ⟨gn, on + i * 6 + j, none⟩ = some y) := hnd
  clear hl hr hx0 ht0 hm hnd
  go_enter Tryz.func38, Tryz.ntmps38
  go_wp2_with fail
  go_loopw [1, 7] (fun i _ wx => ∃ (k : Nat) (A C : List UInt8) (x : Nd), i = .int .i64 k ∧ k ≤ n ∧ l[k]? = some x ∧ tyB x.k = true ∧ TwoB w w.heap.size (w.heap.size + 1) A C wx ∧ TyI l n k A C) (fun i _ _ => (intOf i).toNat)
  case atStart => exact ⟨n, [], [], x0, rfl, Nat.le_refl _, HX0.out.1, HX0.out.2, HS.out, by unfold TyI; simp⟩
  case round =>
    obtain ⟨k, A, C, x, rfl, hkn, hx, ht, hS, hI⟩ := hrel
    clear HS HX0
    have hkm : k < m := by omega
    obtain ⟨y0, y1, y2, y3, y4, y5⟩ := nd_cells HN.out hx
    have hg : gn < w.heap.size := World.block_lt_of_cell? _ _ y0
    have a0 := ((bcell hS.bl).1 gn _ hg).trans y0
    have a1 := ((bcell hS.bl).1 gn _ hg).trans y1
    have a2 := ((bcell hS.bl).1 gn _ hg).trans y2
    have a3 := ((bcell hS.bl).1 gn _ hg).trans y3
    have a4 := ((bcell hS.bl).1 gn _ hg).trans y4
    have a5 := ((bcell hS.bl).1 gn _ hg).trans y5
    have hszF := HZ.out (n + 1) n
    have HSA : Hid (∀ o, TwoB w w.heap.size (w.heap.size + 1) A C (wr.alloc o)) := fun o => hS.alloc o
    have hzw : w.heap.size < wr.heap.size := by
      obtain ⟨v1, u1, _⟩ := hS.one
      obtain ⟨⟨p1, k1⟩, _⟩ := u1.box
      exact (Array.getElem?_eq_some_iff.1 k1).1
    have hzw2 : w.heap.size + 1 < wr.heap.size := by
      obtain ⟨v1, u1, _⟩ := hS.two
      obtain ⟨⟨p1, k1⟩, _⟩ := u1.box
      exact (Array.getElem?_eq_some_iff.1 k1).1
    clear y0 y1 y2 y3 y4 y5 hS
    subst he
    rcases ty_step HR.out hx ht with ⟨hk, hks⟩ | ⟨hk, z, y, hz, hks, hy, hty⟩
    · obtain ⟨f0, fr, hf, hf62⟩ := lf_first (right_nod HR.out hx) hk
      have hE := hI.1
      rw [tyF_leaf hx hk k] at hE
      have hfs : (lfS x).size ≤ 4294967285 := by have := HZ.out 1 k; rw [tyF_leaf hx hk 0] at this; omega
      have hAl : A.length + C.length ≤ 100000 := by have := hI.2.1; omega
      have HW : Hid (∀ o, Calls Tryz.prog 63 #[.pointer (some ⟨w.heap.size, 0, none⟩), .string (lfS x)] (wr.alloc o) fun e w' => e = .returned (.tuple #[.int .i64 (lfS x).size, .nilIface]) ∧ TwoB w w.heap.size (w.heap.size + 1) (A ++ (lfS x).data.toList) C w' ∧ Kept w.heap.size (wr.alloc o) w') := fun o => two_write1 (HSA.out o) (lfS x) f0 fr hf hf62 (by omega)
      have hA1 : A ++ (lfS x).data.toList ≠ [] := by rw [hf]; simp
      have HE : Hid ((A ++ (lfS x).data.toList) ++ C = (tyF l (n + 1) n).data.toList) := hE
      have hA2 : (A ++ (lfS x).data.toList).length ≤ 4295067285 := by
        rw [List.length_append, show (lfS x).data.toList.length = (lfS x).size from rfl]
        omega
      have hC2 : C.length ≤ 100000 := by omega
      have HK2 : Hid (∀ o w2, Kept w.heap.size (wr.alloc (.cells o 53)) w2 → w2.heap[wr.heap.size]? = some (.cells o 53 (0, 0))) := fun o w2 hK => by
        have t := Go.heap_alloc_new wr (.cells o 53)
        rw [hK _ _ _ _ t (by decide) (by omega)]
        exact t
      obtain ⟨A', hA'⟩ : ∃ A', A' = A ++ (lfS x).data.toList := ⟨_, rfl⟩
      rw [← hA'] at HW hA1 HE hA2
      obtain ⟨S, hSS⟩ : ∃ S, S = lfS x := ⟨_, rfl⟩
      rw [← hSS] at HW
      have HW2 : Hid (S = lfS x) := hSS
      clear hE hf hf62 hfs hAl hA' hSS hI hx ht HSA
      rw [hks] at a3
      simp only [List.length_nil] at a3
      obtain ⟨K, T, V, ka, kc, ks, F, E⟩ := x
      simp only at *
      rcases hk with e | e | e | e
      all_goals
        subst e
        first | obtain rfl : S = ⟨#[105, 54, 52]⟩ := HW2.out | obtain rfl : S = ⟨#[98, 111, 111, 108]⟩ := HW2.out | obtain rfl : S = ⟨#[40, 41]⟩ := HW2.out | obtain rfl : S = T := HW2.out
        clear HW2
        go_wp2_with fail
        refine (HW.out _).mono ?_
        rintro e w2 ⟨rfl, hS2, hK2⟩
        have t3 := Lib.cell_of_heap (HK2.out _ _ hK2) 3
        simp only [List.getElem?_toArray, List.getElem?_cons_zero, List.getElem?_cons_succ] at t3
        have HS2 : Hid _ := hS2
        clear hS2 hK2 HW HK2 a0 a1 a2 a3 a4 a5
        go_wp2_with fail
        refine (two_string1 HS2.out hA1).mono ?_
        rintro e w3 ⟨rfl, hb3, hI3⟩
        go_wp2_with fail
        refine (string2 hb3 hI3).mono ?_
        rintro e w4 ⟨rfl, hb4⟩
        clear hI3 hb3
        go_wp2
        go_ret
        exact ⟨by rw [ba_app _ _ _ HE.out]; rfl, hb4⟩
    · obtain ⟨i14, i15, i16⟩ := hI.over HR.out hkn hx hk hks hz hy hty
      have hAl : A.length + C.length ≤ 100000 := by have := hI.2.1; omega
      have hxo := (HL.out.2.2.1 x (List.mem_of_getElem? hx)).ks
      rw [hks] at hxo a3
      obtain ⟨gk, ok, hka, hkc⟩ := hxo.2.2 (by simp)
      have hkc1 : 1 ≤ x.kc := hxo.1
      have hkc2 : x.kc ≤ 9223372036854775807 := hxo.2.1
      have q0 : w.cell? ⟨gk, ok, none⟩ = some (.int .i64 (z : Int)) := hkc 0 (z : Int) rfl
      have hgk : gk < w.heap.size := World.block_lt_of_cell? _ _ q0
      have HQ : Hid (∀ W, Below w.heap.size w W → W.cell? ⟨gk, ok, none⟩ = some (.int .i64 (z : Int))) := fun W hW => ((bcell hW).1 gk ok hgk).trans q0
      have HK2 : Hid (∀ o w2, Kept w.heap.size (wr.alloc (.cells o 53)) w2 → w2.heap[wr.heap.size]? = some (.cells o 53 (0, 0))) := fun o w2 hK => by
        have t := Go.heap_alloc_new wr (.cells o 53)
        rw [hK _ _ _ _ t (by decide) (by omega)]
        exact t
      have HY : Hid (l[z]? = some y ∧ tyB y.k = true ∧ z ≤ n) := ⟨hy, hty, by omega⟩
      have HSB : Hid (∀ o, TwoB w w.heap.size (w.heap.size + 1) A C (wr.alloc o)) := HSA.out
      rw [hka] at a3
      simp only [List.length_singleton] at a3
      clear hI hx ht HSA hxo hka hkc hks q0 hy hty
      obtain ⟨K, T, V, ka, kc, ks, F, E⟩ := x
      simp only at *
      rcases hk with e | e | e
      · subst e
        have HI2 : Hid (TyI l n z (A ++ [38]) C) := i14 rfl
        clear i14 i15 i16
        go_wp2_with fail
        refine (two_write1 (HSB.out _) ⟨#[38]⟩ 38 [] rfl (by decide) (by show A.length + 1 ≤ _; omega)).mono ?_
        rintro e w2 ⟨rfl, hS2, hK2⟩
        have t3 := Lib.cell_of_heap (HK2.out _ _ hK2) 3
        simp only [List.getElem?_toArray, List.getElem?_cons_zero, List.getElem?_cons_succ] at t3
        have t4 := HQ.out _ hS2.bl
        have HS2 : Hid _ := hS2
        clear hS2 hK2 HK2 a0 a1 a2 a3 a4 a5
        go_wp2
        exact ⟨⟨z, _, _, y, rfl, HY.out.2.2, HY.out.1, HY.out.2.1, HS2.out, HI2.out⟩, by simp [intOf]; omega⟩
      · subst e
        have HI2 : Hid (TyI l n z (A ++ [38, 109, 117, 116, 32]) C) := i15 rfl
        clear i14 i15 i16
        go_wp2_with fail
        refine (two_write1 (HSB.out _) ⟨#[38, 109, 117, 116, 32]⟩ 38 [109, 117, 116, 32] rfl (by decide) (by show A.length + 5 ≤ _; omega)).mono ?_
        rintro e w2 ⟨rfl, hS2, hK2⟩
        have t3 := Lib.cell_of_heap (HK2.out _ _ hK2) 3
        simp only [List.getElem?_toArray, List.getElem?_cons_zero, List.getElem?_cons_succ] at t3
        have t4 := HQ.out _ hS2.bl
        have HS2 : Hid _ := hS2
        clear hS2 hK2 HK2 a0 a1 a2 a3 a4 a5
        go_wp2
        exact ⟨⟨z, _, _, y, rfl, HY.out.2.2, HY.out.1, HY.out.2.1, HS2.out, HI2.out⟩, by simp [intOf]; omega⟩
      · subst e
        have HI2 : Hid (TyI l n z (A ++ [66, 111, 120, 60]) (C ++ [62])) := i16 rfl
        clear i14 i15 i16
        go_wp2_with fail
        refine (two_write1 (HSB.out _) ⟨#[66, 111, 120, 60]⟩ 66 [111, 120, 60] rfl (by decide) (by show A.length + 4 ≤ _; omega)).mono ?_
        rintro e w2 ⟨rfl, hS2, hK2⟩
        have hbx := HK2.out _ _ hK2
        clear hK2 HK2 a0 a1 a2 a3 a4 a5
        go_wp2_with fail
        refine (two_write2 hS2 (by omega)).mono ?_
        rintro e w3 ⟨rfl, hS3, hK3⟩
        have hbx3 := hK3 _ _ _ _ hbx (by decide) (by omega)
        rw [hbx] at hbx3
        have t3 := Lib.cell_of_heap hbx3 3
        simp only [List.getElem?_toArray, List.getElem?_cons_zero, List.getElem?_cons_succ] at t3
        have t4 := HQ.out _ hS3.bl
        have HS2 : Hid _ := hS3
        clear hS2 hS3 hK3 hbx hbx3
        go_wp2
        exact ⟨⟨z, _, _, y, rfl, HY.out.2.2, HY.out.1, HY.out.2.1, HS2.out, HI2.out⟩, by simp [intOf]; omega⟩
end
section
open Go.RowKit Go.Shelf
set_option maxRecDepth 100000 in
set_option maxHeartbeats 4000000 in
theorem type_wrong (l : List Nd) (ao : Option Addr) (c : Nat) (n : Int) (w : World) (hT : Tm w) (hl : NdA w ao c l) (h : cnE l n ≠ 0) : Calls Tryz.prog 18 #[.agg #[.slice ao l.length c], .int .i64 n] w fun e w' => e = .returned (.tuple #[.string ⟨#[]⟩, .int .i64 (cnE l n)]) ∧ Below w.heap.size w w' := by
  have HC : Hid (∀ W, Below w.heap.size w W → Calls Tryz.prog 34 #[.agg #[.slice ao l.length c], .int .i64 n] W fun e w' => e = .returned (.int .i64 (cnE l n)) ∧ Below W.heap.size W w') := fun W hW => check34 l ao c n W (hT.below hW) (hl.below hW)
  clear hl hT
  generalize l.length = m at *
  generalize cnE l n = en at *
  have hen : (en == 0) = false := by simpa using h
  go_enter Tryz.func18, Tryz.ntmps18
  go_wp2_with fail
  refine (HC.out _ (below_cells _ _ _)).mono ?_
  rintro e w1 ⟨rfl, hb⟩
  have HB1 : Hid (Below w.heap.size w w1) := (below_cells w _ _).trans (hb.mono (by simp))
  clear hb HC
  go_wp2
  go_ret2
  exact ⟨rfl, HB1.out⟩
set_option maxRecDepth 100000 in
set_option maxHeartbeats 4000000 in
theorem type_node (l : List Nd) (ao : Option Addr) (c n : Nat) (w : World) (x : Nd) (hT : Tm w) (hl : NdA w ao c l) (hr : rightB l = true) (hx : l[n]? = some x) : Calls Tryz.prog 18 #[.agg #[.slice ao l.length c], .int .i64 n] w fun e w' => e = .returned (.tuple #[.string (if tyB x.k = true then tyF l (n + 1) n else ⟨#[]⟩), .int .i64 (if tyB x.k = true then 0 else 1)]) ∧ Below w.heap.size w w' := by
  have hn : n < l.length := (List.getElem?_eq_some_iff.1 hx).1
  have HC : Hid (∀ W, Below w.heap.size w W → Calls Tryz.prog 34 #[.agg #[.slice ao l.length c], .int .i64 n] W fun e w' => e = .returned (.int .i64 0) ∧ Below W.heap.size W w') := fun W hW => by
    have t := check34 l ao c n W (hT.below hW) (hl.below hW)
    have e : cnE l n = 0 := by unfold cnE; rw [if_pos hr, if_neg (by omega)]
    rw [e] at t
    exact t
  have HK : tyB x.k = true → Hid (∀ W, Below w.heap.size w W → Calls Tryz.prog 38 #[.slice ao l.length c, .int .i64 n] W fun e w' => e = .returned (.string (tyF l (n + 1) n)) ∧ Below W.heap.size W w') := fun h W hW => text38 l ao c n W x (hl.below hW) hr hx h
  have H37 : Hid (∀ W, Calls Tryz.prog 37 #[.int .u64 130048, .int .i64 x.k] W fun e w' => e = .returned (.bool (tyB x.k)) ∧ w' = W) := fun W => by
    have t := has37 130048 x.k W (by decide)
    rw [h_T] at t
    exact t
  obtain ⟨gn, on, he, hnd⟩ := hl.2.2.2 (by omega)
  have y0 := (nd_cells hnd hx).1
  have hg : gn < w.heap.size := World.block_lt_of_cell? _ _ y0
  have hnc : l.length ≤ c := hl.1
  have hc2 : c ≤ 9223372036854775807 := hl.2.1
  have c53 := cells53
  have HY : Hid (∀ W, Below w.heap.size w W → W.cell? ⟨gn, on + n * 6, none⟩ = some (.int .i64 x.k)) := fun W hW => ((bcell hW).1 gn _ hg).trans y0
  generalize tyF l (n + 1) n = S at *
  generalize x.k = k at *
  generalize tyB k = tb at *
  clear hl hr hx hnd y0 hT
  subst he
  generalize l.length = m at *
  cases tb
  · clear HK
    simp only [Bool.false_eq_true, if_false]
    go_enter Tryz.func18, Tryz.ntmps18
    go_wp2_with fail
    refine (HC.out _ (below_cells _ _ _)).mono ?_
    rintro e w1 ⟨rfl, hb⟩
    have HB1 : Hid (Below w.heap.size w w1) := (below_cells w _ _).trans (hb.mono (by simp))
    have d0 := (bcell hb).1 w.heap.size 0 (by simp)
    simp at d0
    have d1 := HY.out _ HB1.out
    clear hb HC HY
    go_wp2_with (go_at_call 37; refine (H37.out _).mono ?_; rintro e w2 ⟨rfl, rfl⟩)
    go_ret2
    exact ⟨rfl, HB1.out⟩
  · have H38 := HK rfl
    clear HK
    simp only [if_true]
    go_enter Tryz.func18, Tryz.ntmps18
    go_wp2_with fail
    refine (HC.out _ (below_cells _ _ _)).mono ?_
    rintro e w1 ⟨rfl, hb⟩
    have HB1 : Hid (Below w.heap.size w w1) := (below_cells w _ _).trans (hb.mono (by simp))
    have d0 := (bcell hb).1 w.heap.size 0 (by simp)
    simp at d0
    have d1 := HY.out _ HB1.out
    clear hb HC HY
    go_wp2_with (first | (go_at_call 37; refine (H37.out _).mono ?_; rintro e w2 ⟨rfl, rfl⟩) | (go_at_call 38; refine (H38.out _ HB1.out).mono ?_; rintro e w3 ⟨rfl, hb3⟩; have HB3 : Hid (Below w.heap.size w w3) := HB1.out.trans (hb3.mono HB1.out.size); clear hb3))
    go_ret2
    exact ⟨rfl, HB3.out⟩
theorem type18 (l : List Nd) (ao : Option Addr) (c : Nat) (n : Int) (w : World) (hT : Tm w) (hl : NdA w ao c l) : Calls Tryz.prog 18 #[.agg #[.slice ao l.length c], .int .i64 n] w fun e w' => e = .returned (.tuple #[.string (tyS l n), .int .i64 (tyE l n)]) ∧ Below w.heap.size w w' := by
  by_cases h : cnE l n = 0
  · unfold tyS tyE
    have hc := h
    unfold cnE at hc
    split at hc
    · rename_i hr
      split at hc
      · cases hc
      · rename_i h2
        obtain ⟨k, rfl⟩ : ∃ k : Nat, n = k := ⟨n.toNat, by omega⟩
        obtain ⟨x, hx⟩ : ∃ x, l[k]? = some x := ⟨_, List.getElem?_eq_getElem (by omega)⟩
        have t := type_node l ao c k w x hT hl hr hx
        rw [if_pos h, kdK_at hx]
        cases hb : tyB x.k
        · rw [hb] at t
          simpa using t
        · rw [hb] at t
          simpa using t
    · cases hc
  · have t := type_wrong l ao c n w hT hl h
    have e1 : tyE l n = cnE l n := by unfold tyE; rw [if_neg h]
    have e2 : tyS l n = ⟨#[]⟩ := by unfold tyS; rw [e1, if_neg h]
    rw [e1, e2]
    exact t
end
section
open Go.RowKit Go.Shelf
theorem nds_none (w : World) : NdS w none 0 [] := ⟨Nat.le_refl _, by decide, fun x hx => (by cases hx), fun h => absurd h (by simp)⟩
def subU (l : List Nd) (n : Int) : List Nd := if cnE l n = 0 then subR l n.toNat else []
theorem sub16 (l : List Nd) (ao : Option Addr) (c : Nat) (n : Int) (w : World) (hT : Tm w) (hl : NdA w ao c l) (hks : ∀ x ∈ l, x.ks.length ≤ 1048576) : Calls Tryz.prog 16 #[.agg #[.slice ao l.length c], .int .i64 n] w fun e w' => Below w.heap.size w w' ∧ ∃ qo qc Q, e = .returned (.tuple #[.agg #[.slice qo (List.length Q) qc], .int .i64 (cnE l n)]) ∧ NdS w' qo qc Q ∧ Q.map pu = subU l n := by
  unfold subU
  by_cases h : cnE l n = 0
  · rw [if_pos h, h]
    unfold cnE at h
    split at h
    · rename_i hr
      split at h
      · cases h
      · rename_i h2
        obtain ⟨k, rfl⟩ : ∃ k : Nat, n = k := ⟨n.toNat, by omega⟩
        exact sub_right l ao c k w hT hl hr (by omega) hks
    · cases h
  · rw [if_neg h]
    refine (sub_wrong l ao c n w hT hl h).mono ?_
    rintro e w' ⟨rfl, hb⟩
    exact ⟨hb, none, 0, [], rfl, nds_none w', rfl⟩
theorem sub17 (l : List Nd) (ao : Option Addr) (c : Nat) (n : Int) (w : World) (hl : NdA w ao c l) (hks : ∀ x ∈ l, x.ks.length ≤ 1048576) : Calls Tryz.prog 17 #[.agg #[.slice ao l.length c], .int .i64 n] w fun e w' => Below w.heap.size w w' ∧ ∃ qo qc Q, e = .returned (.tuple #[.agg #[.slice qo (List.length Q) qc], .int .i64 (cnE l n)]) ∧ NdS w' qo qc Q ∧ Q.map pu = subU l n := by
  unfold subU
  by_cases h : cnE l n = 0
  · rw [if_pos h, h]
    unfold cnE at h
    split at h
    · rename_i hr
      split at h
      · cases h
      · rename_i h2
        obtain ⟨k, rfl⟩ : ∃ k : Nat, n = k := ⟨n.toNat, by omega⟩
        obtain ⟨p, hp, _⟩ := right_par hr
        have t := rsub_right l ao c k w hl hr (by omega) hks
        rw [rsub_is l (par_kin hp) k (by omega)] at t
        exact t
    · cases h
  · rw [if_neg h]
    refine (rsub_wrong l ao c n w hl h).mono ?_
    rintro e w' ⟨rfl, hb⟩
    exact ⟨hb, none, 0, [], rfl, nds_none w', rfl⟩
set_option maxRecDepth 100000 in
set_option maxHeartbeats 4000000 in
theorem law5 (l : List Nd) (ao : Option Addr) (c : Nat) (n : Int) (w : World) (hT : Tm w) (hl : NdA w ao c l) (hks : ∀ x ∈ l, x.ks.length ≤ 1048576) : Calls Tryz.prog 5 #[.agg #[.slice ao l.length c], .int .i64 n] w fun e w' => e = .returned (.bool true) ∧ Below w.heap.size w w' := by
  have H16 : Hid (∀ W, Below w.heap.size w W → Calls Tryz.prog 16 #[.agg #[.slice ao l.length c], .int .i64 n] W fun e w' => Below W.heap.size W w' ∧ ∃ qo qc Q, e = .returned (.tuple #[.agg #[.slice qo (List.length Q) qc], .int .i64 (cnE l n)]) ∧ NdS w' qo qc Q ∧ Q.map pu = subU l n) := fun W hW => sub16 l ao c n W (hT.below hW) (hl.below hW) hks
  have H17 : Hid (∀ W, Below w.heap.size w W → Calls Tryz.prog 17 #[.agg #[.slice ao l.length c], .int .i64 n] W fun e w' => Below W.heap.size W w' ∧ ∃ qo qc Q, e = .returned (.tuple #[.agg #[.slice qo (List.length Q) qc], .int .i64 (cnE l n)]) ∧ NdS w' qo qc Q ∧ Q.map pu = subU l n) := fun W hW => sub17 l ao c n W (hl.below hW) hks
  have H18 : Hid (∀ W, Below w.heap.size w W → Calls Tryz.prog 18 #[.agg #[.slice ao l.length c], .int .i64 n] W fun e w' => e = .returned (.tuple #[.string (tyS l n), .int .i64 (tyE l n)]) ∧ Below W.heap.size W w') := fun W hW => type18 l ao c n W (hT.below hW) (hl.below hW)
  have H19 : Hid (∀ W, Below w.heap.size w W → Calls Tryz.prog 19 #[.agg #[.slice ao l.length c], .int .i64 n] W fun e w' => e = .returned (.tuple #[.string (tyS l n), .int .i64 (tyE l n)]) ∧ Below W.heap.size W w') := fun W hW => rtype19 l ao c n W (hl.below hW)
  have H13 : Hid (∀ W, Below w.heap.size w W → Calls Tryz.prog 13 #[] W fun e w' => e = .returned (.bool true) ∧ Below W.heap.size W w') := fun W hW => small13 W (hT.below hW)
  have H20 : Hid (∀ W qo qc Q ro rc R, NdS W qo qc Q → NdS W ro rc R → Q.map pu = R.map pu → Calls Tryz.prog 20 #[.agg #[.slice qo (List.length Q) qc], .agg #[.slice ro (List.length R) rc]] W fun e w' => e = .returned (.bool true) ∧ Below W.heap.size W w') := fun W qo qc Q ro rc R hQ hR he => tree20 Q R qo ro qc rc W hQ hR he
  generalize subU l n = U at *
  generalize cnE l n = ce at *
  generalize tyS l n = ts at *
  generalize tyE l n = te at *
  clear hT hl hks
  generalize l.length = m at *
  go_enter Tryz.func5, Tryz.ntmps5
  go_wp2_with fail
  refine (H16.out _ (below_cells _ _ _)).mono ?_
  rintro e w1 ⟨hb, qo, qc, Q, rfl, hQ, he⟩
  have HB1 : Hid (Below w.heap.size w w1) := (below_cells w _ _).trans (hb.mono (by simp))
  have d0 := (bcell hb).1 w.heap.size 0 (by simp)
  simp at d0
  have HQ : Hid (NdS w1 qo qc Q ∧ Q.map pu = U) := ⟨hQ, he⟩
  clear hb hQ he H16
  have hA : ∀ o, (w1.alloc o).cell? ⟨w.heap.size, 0, none⟩ = some (.slice ao m c) := fun o => ((bcell ((Below.refl _ w1).alloc (Nat.le_refl _) o)).1 _ _ (World.block_lt_of_cell? _ _ d0)).trans d0
  go_wp2_with fail
  refine (H17.out _ (HB1.out.alloc HB1.out.size _)).mono ?_
  rintro e w2 ⟨hb, ro, rc, R, rfl, hR, he⟩
  have HB2 : Hid (Below w.heap.size w w2) := (HB1.out.alloc HB1.out.size _).trans (hb.mono (HB1.out.alloc HB1.out.size _).size)
  have f0 := ((bcell hb).1 w.heap.size 0 (World.block_lt_of_cell? _ _ (hA _))).trans (hA _)
  have f1 : w2.cell? ⟨w1.heap.size, 0, none⟩ = some (.slice qo Q.length qc) := by
    rw [(bcell hb).1 w1.heap.size 0 (by simp)]
    simp
  have HQ2 : Hid (NdS w2 qo qc Q ∧ NdS w2 ro rc R ∧ Q.map pu = R.map pu) := ⟨(HQ.out.1.below (below_cells w1 _ _)).below hb, hR, by rw [he]; exact HQ.out.2⟩
  clear hb hR he H17 hA d0
  have hA : ∀ o, (w2.alloc o).cell? ⟨w.heap.size, 0, none⟩ = some (.slice ao m c) := fun o => ((bcell ((Below.refl _ w2).alloc (Nat.le_refl _) o)).1 _ _ (World.block_lt_of_cell? _ _ f0)).trans f0
  have hA1 : ∀ o, (w2.alloc o).cell? ⟨w1.heap.size, 0, none⟩ = some (.slice qo Q.length qc) := fun o => ((bcell ((Below.refl _ w2).alloc (Nat.le_refl _) o)).1 _ _ (World.block_lt_of_cell? _ _ f1)).trans f1
  go_wp2_with fail
  refine (H18.out _ (HB2.out.alloc HB2.out.size _)).mono ?_
  rintro e w3 ⟨rfl, hb⟩
  have HB3 : Hid (Below w.heap.size w w3) := (HB2.out.alloc HB2.out.size _).trans (hb.mono (HB2.out.alloc HB2.out.size _).size)
  have g0 := ((bcell hb).1 w.heap.size 0 (World.block_lt_of_cell? _ _ (hA _))).trans (hA _)
  have g1 := ((bcell hb).1 w1.heap.size 0 (World.block_lt_of_cell? _ _ (hA1 _))).trans (hA1 _)
  have g2 : w3.cell? ⟨w2.heap.size, 0, none⟩ = some (.slice ro R.length rc) := by
    rw [(bcell hb).1 w2.heap.size 0 (by simp)]
    simp
  have HQ3 : Hid (NdS w3 qo qc Q ∧ NdS w3 ro rc R ∧ Q.map pu = R.map pu) := ⟨(HQ2.out.1.below (below_cells w2 _ _)).below hb, (HQ2.out.2.1.below (below_cells w2 _ _)).below hb, HQ2.out.2.2⟩
  clear hb H18 hA hA1 f0 f1
  go_wp2_with fail
  refine (H19.out _ HB3.out).mono ?_
  rintro e w4 ⟨rfl, hb⟩
  have HB4 : Hid (Below w.heap.size w w4) := HB3.out.trans (hb.mono HB3.out.size)
  have k1 := ((bcell hb).1 w1.heap.size 0 (World.block_lt_of_cell? _ _ g1)).trans g1
  have k2 := ((bcell hb).1 w2.heap.size 0 (World.block_lt_of_cell? _ _ g2)).trans g2
  have HQ4 : Hid (NdS w4 qo qc Q ∧ NdS w4 ro rc R ∧ Q.map pu = R.map pu) := ⟨HQ3.out.1.below hb, HQ3.out.2.1.below hb, HQ3.out.2.2⟩
  clear hb H19 g0 g1 g2
  go_wp2_with fail
  refine (H20.out _ qo qc Q ro rc R HQ4.out.1 HQ4.out.2.1 HQ4.out.2.2).mono ?_
  rintro e w5 ⟨rfl, hb⟩
  have HB5 : Hid (Below w.heap.size w w5) := HB4.out.trans (hb.mono HB4.out.size)
  clear hb H20 k1 k2
  go_wp2_with fail
  refine (H13.out _ HB5.out).mono ?_
  rintro e w6 ⟨rfl, hb⟩
  have HB6 : Hid (Below w.heap.size w w6) := HB5.out.trans (hb.mono HB5.out.size)
  clear hb
  go_wp2
  go_ret
  exact ⟨rfl, HB6.out⟩
end
end Go.Proofs.YtkkmeogehapjoaaGreatDoor
