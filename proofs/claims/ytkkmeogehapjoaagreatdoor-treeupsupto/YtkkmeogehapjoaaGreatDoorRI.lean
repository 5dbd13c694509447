/- Of which node each is a kid, and how deep a tree is: the law. -/
import Derived.Test.YtkkmeogehapjoaaGreatDoorRH
import Derived.Test.YtkkmeogehapjoaaGreatDoorI1
import Derived.Test.YtkkmeogehapjoaaGreatDoorY13
namespace Go.Proofs.YtkkmeogehapjoaaGreatDoor
open Go.RowKit Go.Shelf
theorem isa_blk {w : World} {g : Nat} {p : List Int} (h : Blk w g p) (hn : p.length ≤ 20000) : IsA w (some ⟨g, 0, none⟩) p.length p :=
  ⟨Nat.le_refl _, by omega, fun _ => ⟨g, 0, rfl, fun j y hy => by rw [Nat.zero_add]; exact h.cell hy⟩⟩
set_option maxRecDepth 100000 in
set_option maxHeartbeats 4000000 in
theorem law6_of (T : Value) (tv : Value) (hTv : T = .agg #[tv]) (e d : Int) (IsP : World → Value → Prop) (hIs : ∀ W W' a, IsP W a → Below W.heap.size W W' → IsP W' a) (w : World)
    (H21 : Hid (∀ W, Below w.heap.size w W → Calls Tryz.prog 21 #[T] W fun x w' => Below W.heap.size W w' ∧ ∃ a, x = .returned (.tuple #[a, .int .i64 e]) ∧ IsP w' a))
    (H22 : Hid (∀ W, Below w.heap.size w W → Calls Tryz.prog 22 #[T] W fun x w' => Below W.heap.size W w' ∧ ∃ a, x = .returned (.tuple #[a, .int .i64 e]) ∧ IsP w' a))
    (H23 : Hid (∀ W, Below w.heap.size w W → Calls Tryz.prog 23 #[T] W fun x w' => x = .returned (.tuple #[.int .i64 d, .int .i64 e]) ∧ Below W.heap.size W w'))
    (H24 : Hid (∀ W, Below w.heap.size w W → Calls Tryz.prog 24 #[T] W fun x w' => x = .returned (.tuple #[.int .i64 d, .int .i64 e]) ∧ Below W.heap.size W w'))
    (H25 : Hid (∀ W a b, IsP W a → IsP W b → Calls Tryz.prog 25 #[a, b] W fun x w' => x = .returned (.bool true) ∧ Below W.heap.size W w'))
    (H13 : Hid (∀ W, Below w.heap.size w W → Calls Tryz.prog 13 #[] W fun x w' => x = .returned (.bool true) ∧ Below W.heap.size W w')) :
    Calls Tryz.prog 6 #[T] w fun x w' => x = .returned (.bool true) ∧ Below w.heap.size w w' := by
  subst hTv
  have HIs : Hid (∀ W W' a, IsP W a → Below W.heap.size W W' → IsP W' a) := hIs
  clear hIs
  go_enter Tryz.func6, Tryz.ntmps6
  go_wp2_with fail
  refine (H21.out _ (below_cells _ _ _)).mono ?_
  rintro x w1 ⟨hb, a, rfl, ha⟩
  have HB1 : Hid (Below w.heap.size w w1) := (below_cells w _ _).trans (hb.mono (by simp))
  have d0 := (bcell hb).1 w.heap.size 0 (by simp)
  simp at d0
  have HA1 : Hid (IsP w1 a) := ha
  clear hb ha H21
  go_wp2_with fail
  refine (H22.out _ HB1.out).mono ?_
  rintro x w2 ⟨hb, b, rfl, hbp⟩
  have HB2 : Hid (Below w.heap.size w w2) := HB1.out.trans (hb.mono HB1.out.size)
  have d1 := ((bcell hb).1 w.heap.size 0 (World.block_lt_of_cell? _ _ d0)).trans d0
  have HA2 : Hid (IsP w2 a ∧ IsP w2 b) := ⟨HIs.out _ _ _ HA1.out hb, hbp⟩
  clear hb hbp H22 d0 HA1
  go_wp2_with fail
  refine (H23.out _ HB2.out).mono ?_
  rintro x w3 ⟨rfl, hb⟩
  have HB3 : Hid (Below w.heap.size w w3) := HB2.out.trans (hb.mono HB2.out.size)
  have d2 := ((bcell hb).1 w.heap.size 0 (World.block_lt_of_cell? _ _ d1)).trans d1
  have HA3 : Hid (IsP w3 a ∧ IsP w3 b) := ⟨HIs.out _ _ _ HA2.out.1 hb, HIs.out _ _ _ HA2.out.2 hb⟩
  clear hb H23 d1 HA2
  go_wp2_with fail
  refine (H24.out _ HB3.out).mono ?_
  rintro x w4 ⟨rfl, hb⟩
  have HB4 : Hid (Below w.heap.size w w4) := HB3.out.trans (hb.mono HB3.out.size)
  have HA4 : Hid (IsP w4 a ∧ IsP w4 b) := ⟨HIs.out _ _ _ HA3.out.1 hb, HIs.out _ _ _ HA3.out.2 hb⟩
  clear hb H24 d2 HA3
  go_wp2_with fail
  refine (H25.out _ _ _ HA4.out.1 HA4.out.2).mono ?_
  rintro x w5 ⟨rfl, hb⟩
  have HB5 : Hid (Below w.heap.size w w5) := HB4.out.trans (hb.mono HB4.out.size)
  clear hb H25
  go_wp2_with fail
  refine (H13.out _ HB5.out).mono ?_
  rintro x w6 ⟨rfl, hb⟩
  have HB6 : Hid (Below w.heap.size w w6) := HB5.out.trans (hb.mono HB5.out.size)
  clear hb
  go_wp2
  go_ret
  exact ⟨rfl, HB6.out⟩
theorem law6 (l : List Nd) (ao : Option Addr) (c : Nat) (w : World) (hT : Tm w) (hl : NdA w ao c l) : Calls Tryz.prog 6 #[.agg #[.slice ao l.length c]] w fun e w' => e = .returned (.bool true) ∧ Below w.heap.size w w' := by
  have H13 : Hid (∀ W, Below w.heap.size w W → Calls Tryz.prog 13 #[] W fun x w' => x = .returned (.bool true) ∧ Below W.heap.size W w') := fun W hW => small13 W (hT.below hW)
  cases hr : rightB l with
  | true =>
    obtain ⟨p, hp, _⟩ := right_par hr
    have h01 := right_len hr
    have hpl := (parR_some hp).1
    refine law6_of _ _ rfl 0 (Lib.maxOf (depR p)) (fun W a => ∃ g, a = .slice (some ⟨g, 0, none⟩) l.length l.length ∧ Blk W g p) (fun W W' a ⟨g, h1, h2⟩ hb => ⟨g, h1, h2.below hb⟩) w ?_ ?_ ?_ ?_ ?_ H13
    · exact fun W hW => (parents_right l ao c W (hT.below hW) (hl.below hW) hr p hp).mono fun x w' ⟨h1, g, h2, h3, h4⟩ => ⟨h1, _, h4, g, rfl, h3⟩
    · exact fun W hW => (rparents_right l ao c W (hl.below hW) hr p hp).mono fun x w' ⟨h1, g, h2, h3, h4⟩ => ⟨h1, _, h4, g, rfl, h3⟩
    · exact fun W hW => depth_right l ao c W (hT.below hW) (hl.below hW) hr p hp
    · exact fun W hW => rdepth_right l ao c W (hl.below hW) hr p hp
    · intro W a b ⟨g1, e1, k1⟩ ⟨g2, e2, k2⟩
      subst e1 e2
      have t := ints25 p p (some ⟨g1, 0, none⟩) (some ⟨g2, 0, none⟩) p.length p.length W (isa_blk k1 (by omega)) (isa_blk k2 (by omega)) rfl
      rw [hpl] at t
      exact t
  | false =>
    refine law6_of _ _ rfl 3 0 (fun W a => a = .slice none 0 0) (fun W W' a h _ => h) w ?_ ?_ ?_ ?_ ?_ H13
    · exact fun W hW => (parents_wrong l ao c W (hT.below hW) (hl.below hW) hr).mono fun x w' ⟨h1, h4⟩ => ⟨h1, _, h4, rfl⟩
    · exact fun W hW => (rparents_wrong l ao c W (hl.below hW) hr).mono fun x w' ⟨h4, h1⟩ => ⟨h1, _, h4, rfl⟩
    · exact fun W hW => depth_wrong l ao c W (hT.below hW) (hl.below hW) hr
    · exact fun W hW => rdepth_wrong l ao c W (hl.below hW) hr
    · intro W a b e1 e2
      subst e1 e2
      exact ints25 [] [] none none 0 0 W (isa_nil W) (isa_nil W) rfl
end Go.Proofs.YtkkmeogehapjoaaGreatDoor
