/- Walks of the first question of every statement (speaks): a number into two pages. -/
import Derived.Test.YtndbkkldfinggabP2
import Derived.RangeFuncWrites
import Derived.RangeFuncNested
namespace Go.Proofs.Ytndbkkldfinggab
open Go.RowKit Go.Shelf
attribute [local go_sem] Oper.semAt_some
theorem cells_set {W : World} {g : Nat} {c : Array Value} {t : TypeId} (o : Nat) (v : Value) (h : W.heap[g]? = some (.cells c t)) : (W.setCell ⟨g, o, none⟩ v).heap[g]? = some (.cells (c.setIfInBounds o v) t) := by
  obtain ⟨hlt, hk⟩ := Array.getElem?_eq_some_iff.1 h
  show (W.heap.modify g _)[g]? = _
  rw [Array.getElem?_eq_getElem (by rw [Array.size_modify]; exact hlt), Array.getElem_modify_self, hk]
  rfl
theorem grown_set (W : World) (g o : Nat) (v : Value) : W.grownBy (W.setCell ⟨g, o, none⟩ v) (some g) :=
  ⟨rfl, rfl, rfl, by simp, fun k _ hne => Below.heap_setCell _ _ _ _ (fun e => hne (by rw [e]))⟩
def Pg (W : World) (b r g1 g2 : Nat) : Prop := ∃ c1 c2, Two W b r g1 g2 c1 c2 ∧ c1.size = 4096 ∧ c2.size = 4096
theorem Pg.sizes {W : World} {b r g1 g2 : Nat} (h : Pg W b r g1 g2) : r < b ∧ b < g1 ∧ g1 < g2 ∧ g2 < W.heap.size := by
  obtain ⟨c1, c2, h, _, _⟩ := h
  exact ⟨h.lt1, h.lt2, h.lt3, h.sizes.2.2⟩
theorem Pg.grown {W W' : World} {b r g1 g2 : Nat} {row : Option Nat} (h : Pg W b r g1 g2) (hg : W.grownBy W' row) (hr : ∀ k, row = some k → g2 < k) : Pg W' b r g1 g2 := by
  obtain ⟨d1, d2, d3, d4⟩ := h.sizes
  obtain ⟨c1, c2, h, z1, z2⟩ := h
  have F : ∀ k, k ≤ g2 → W'.heap[k]? = W.heap[k]? := fun k hk => hg.block k (by omega) (fun e => by have := hr k e.symm; omega)
  exact ⟨c1, c2, ⟨by have := h.cell; simp only [World.cell?, F b (by omega)] at this ⊢; exact this, (F r (by omega)).trans h.map, (F g1 (by omega)).trans h.one, (F g2 (by omega)).trans h.two, h.lt1, h.lt2, h.lt3⟩, z1, z2⟩
theorem Pg.set1 {W : World} {b r g1 g2 : Nat} (h : Pg W b r g1 g2) (o : Nat) (v : Value) : Pg (W.setCell ⟨g1, o, none⟩ v) b r g1 g2 := by
  obtain ⟨d1, d2, d3, d4⟩ := h.sizes
  obtain ⟨c1, c2, h, z1, z2⟩ := h
  have F : ∀ k, k ≠ g1 → k < W.heap.size → (W.setCell ⟨g1, o, none⟩ v).heap[k]? = W.heap[k]? := fun k hk hl => (grown_set W g1 o v).block k hl (fun e => by cases e; exact hk rfl)
  exact ⟨c1.setIfInBounds o v, c2, ⟨by have := h.cell; simp only [World.cell?, F b (by omega) (by omega)] at this ⊢; exact this, (F r (by omega) (by omega)).trans h.map, cells_set o v h.one, (F g2 (by omega) (by omega)).trans h.two, h.lt1, h.lt2, h.lt3⟩, by simpa using z1, z2⟩
theorem Pg.set2 {W : World} {b r g1 g2 : Nat} (h : Pg W b r g1 g2) (o : Nat) (v : Value) : Pg (W.setCell ⟨g2, o, none⟩ v) b r g1 g2 := by
  obtain ⟨d1, d2, d3, d4⟩ := h.sizes
  obtain ⟨c1, c2, h, z1, z2⟩ := h
  have F : ∀ k, k ≠ g2 → k < W.heap.size → (W.setCell ⟨g2, o, none⟩ v).heap[k]? = W.heap[k]? := fun k hk hl => (grown_set W g2 o v).block k hl (fun e => by cases e; exact hk rfl)
  exact ⟨c1, c2.setIfInBounds o v, ⟨by have := h.cell; simp only [World.cell?, F b (by omega) (by omega)] at this ⊢; exact this, (F r (by omega) (by omega)).trans h.map, (F g1 (by omega) (by omega)).trans h.one, cells_set o v h.two, h.lt1, h.lt2, h.lt3⟩, z1, by simpa using z2⟩
theorem Pg.at1 {W : World} {b r g1 g2 : Nat} (h : Pg W b r g1 g2) (o : Nat) (ho : o < 4096) : (∃ x, W.cell? ⟨g1, o, none⟩ = some x) ∧ W.frozen? ⟨g1, o, none⟩ = false := by
  obtain ⟨c1, c2, h, z1, z2⟩ := h
  exact ⟨⟨c1[o], by simp [World.cell?, h.one, z1, ho]⟩, by simp [World.frozen?, h.one]⟩
theorem Pg.at2 {W : World} {b r g1 g2 : Nat} (h : Pg W b r g1 g2) (o : Nat) (ho : o < 4096) : (∃ x, W.cell? ⟨g2, o, none⟩ = some x) ∧ W.frozen? ⟨g2, o, none⟩ = false := by
  obtain ⟨c1, c2, h, z1, z2⟩ := h
  exact ⟨⟨c2[o], by simp [World.cell?, h.two, z2, ho]⟩, by simp [World.frozen?, h.two]⟩
structure Sw (w W0 W : World) (b r g1 g2 m : Nat) (v : Int) (W' : World) : Prop where
  box : Boxed W' w.heap.size 23 (.int .u64 v)
  pg : Pg W' b r g1 g2
  below : Below r w W'
  keeps : KeepsFrom W0.heap.size W W'
  keep : Keep b r m W W'
theorem Sw.setv {w W0 W W' : World} {b r g1 g2 m : Nat} {v x v' : Int} (h : Sw w W0 W b r g1 g2 m v W') (hx : x = v') (l : g2 < w.heap.size) (hm : w.heap.size < m) (hm2 : m < W0.heap.size) (hsz : W0.heap.size ≤ W.heap.size) : Sw w W0 W b r g1 g2 m v' (W'.setCell ⟨w.heap.size, 0, none⟩ (.int .u64 x)) := by
  subst hx
  obtain ⟨d1, d2, d3, d4⟩ := h.pg.sizes
  have z := h.keeps.size
  have hg := grown_set W' w.heap.size 0 (.int .u64 x)
  exact ⟨h.box.set _, h.pg.grown hg (fun k e => by cases e; exact l), h.below.setCell (p := ⟨w.heap.size, 0, none⟩) (by show r ≤ w.heap.size; omega) _, h.keeps.trans (KeepsFrom.of_grownBy hg (fun k e => by cases e; omega)), h.keep.trans (Keep.grown hg (by omega) (by omega) (by omega) (by intro e; cases e; omega) (by intro e; cases e; omega) (by intro e; cases e; omega))⟩
theorem Sw.put1 {w W0 W W' : World} {b r g1 g2 m : Nat} {v : Int} (h : Sw w W0 W b r g1 g2 m v W') (o : Nat) (u : Value) (l : g2 < w.heap.size) (hm : w.heap.size < m) (hm2 : m < W0.heap.size) (hsz : W0.heap.size ≤ W.heap.size) : Sw w W0 W b r g1 g2 m v (W'.setCell ⟨g1, o, none⟩ u) := by
  obtain ⟨d1, d2, d3, d4⟩ := h.pg.sizes
  have z := h.keeps.size
  have hg := grown_set W' g1 o u
  exact ⟨h.box.kept hg (by intro e; cases e; omega), h.pg.set1 o u, h.below.setCell (p := ⟨g1, o, none⟩) (by show r ≤ g1; omega) _, h.keeps.trans (KeepsFrom.of_grownBy hg (fun k e => by cases e; omega)), h.keep.trans (Keep.grown hg (by omega) (by omega) (by omega) (by intro e; cases e; omega) (by intro e; cases e; omega) (by intro e; cases e; omega))⟩
theorem Sw.put2 {w W0 W W' : World} {b r g1 g2 m : Nat} {v : Int} (h : Sw w W0 W b r g1 g2 m v W') (o : Nat) (u : Value) (l : g2 < w.heap.size) (hm : w.heap.size < m) (hm2 : m < W0.heap.size) (hsz : W0.heap.size ≤ W.heap.size) : Sw w W0 W b r g1 g2 m v (W'.setCell ⟨g2, o, none⟩ u) := by
  obtain ⟨d1, d2, d3, d4⟩ := h.pg.sizes
  have z := h.keeps.size
  have hg := grown_set W' g2 o u
  exact ⟨h.box.kept hg (by intro e; cases e; omega), h.pg.set2 o u, h.below.setCell (p := ⟨g2, o, none⟩) (by show r ≤ g2; omega) _, h.keeps.trans (KeepsFrom.of_grownBy hg (fun k e => by cases e; omega)), h.keep.trans (Keep.grown hg (by omega) (by omega) (by omega) (by intro e; cases e; omega) (by intro e; cases e; omega) (by intro e; cases e; omega))⟩
theorem zB_size : zB.size = 4096 := by simp [zB, madeCells]
def vs : Nat → Int
  | 0 => 67305985
  | 1 => 1027
  | _ => 0
def run2 (g1 g2 : Nat) : Bool → Value
  | false => .slice (some ⟨g1, 4094, none⟩) 2 2
  | true => .slice (some ⟨g2, 0, none⟩) 2 4096
set_option maxRecDepth 100000 in
set_option maxHeartbeats 2000000 in
theorem store27 (b r g1 g2 : Nat) (w : World) (h : Two w b r g1 g2 zB zB) : Calls Try.prog 17 #[.pointer (some ⟨b, 0, none⟩), .int .u64 8190, .int .i64 4, .int .u64 67305985] w fun e w' => e = .returned (.int .i64 0) ∧ (∃ c1 c2, Two w' b r g1 g2 c1 c2) ∧ w'.cell? ⟨g1, 4095, none⟩ = some (.int .u8 2) ∧ w'.cell? ⟨g2, 0, none⟩ = some (.int .u8 3) ∧ Below r w w' := by
  have HH : Hid (Two (w.alloc (.cells #[.int .u64 67305985] 23)) b r g1 g2 zB zB) := h.below ((Below.refl _ w).alloc (Nat.le_refl _) _)
  obtain ⟨l1, l2, l3⟩ := h.sizes
  have l4 := h.lt3
  have l5 := h.lt2
  have l6 := h.lt1
  clear h
  refine (callsIn_wide (n := 4)).1 ?_
  refine callsIn_of_wp_marks Try.func17 rfl trivial ?_ rfl
  simp only [Try.ntmps17, List.size_toArray, List.length_cons, List.length_nil, Nat.reduceAdd, Nat.reduceSub, Array.replicate_succ, Array.replicate_zero, List.push_toArray, List.append_toArray, List.nil_append, List.cons_append]
  gi_wp2_with (refine ⟨trivial, ?_⟩; first | (gi_at_call 30; refine (callsIn_wide.2 (number17_w b r g1 g2 zB zB _ HH.out)).mono ?_; rintro e w1 ⟨rfl, hb1⟩) | (gi_at_call 37; refine (callsIn_wide.2 (runs29 b 8190 4 _)).mono ?_; rintro e w' ⟨rfl, rfl⟩))
  obtain ⟨W0, hW0⟩ : ∃ W0, (((w1.alloc (.cells #[.pointer (some ⟨b, 0, none⟩)] 26)).alloc (.cells #[.int .u64 8190] 23)).alloc (.cells #[.int .i64 4] 3)) = W0 := ⟨_, rfl⟩
  have hs1 : w.heap.size + 1 ≤ w1.heap.size := by have := hb1.size; simpa using this
  have bv : Boxed w1 w.heap.size 23 (.int .u64 67305985) := (hb1.block w.heap.size (by simp)).trans (Boxed.new w 23 (.int .u64 67305985))
  have b0 : Boxed W0 w.heap.size 23 (.int .u64 67305985) := by rw [← hW0]; exact ((bv.alloc _).alloc _).alloc _
  have b2 : Boxed W0 w1.heap.size 26 (.pointer (some ⟨b, 0, none⟩)) := by rw [← hW0]; exact ((Boxed.new w1 26 (.pointer (some ⟨b, 0, none⟩))).alloc _).alloc _
  have b3 : Boxed W0 (w1.heap.size + 1) 23 (.int .u64 8190) := by rw [← hW0]; have := ((Boxed.new (w1.alloc (.cells #[.pointer (some ⟨b, 0, none⟩)] 26)) 23 (.int .u64 8190)).alloc (.cells #[.int .i64 4] 3)); simpa using this
  have b4 : Boxed W0 (w1.heap.size + 1 + 1) 3 (.int .i64 4) := by rw [← hW0]; have := (Boxed.new ((w1.alloc (.cells #[.pointer (some ⟨b, 0, none⟩)] 26)).alloc (.cells #[.int .u64 8190] 23)) 3 (.int .i64 4)); simpa using this
  have hs : W0.heap.size = w1.heap.size + 3 := by rw [← hW0]; simp
  have hB1 : Below w1.heap.size w1 W0 := by rw [← hW0]; exact (((Below.refl _ w1).alloc (Nat.le_refl _) _).alloc (by simp) _).alloc (by simp; omega) _
  have hT0 : Two W0 b r g1 g2 zB zB := (HH.out.below hb1).below hB1
  have hB0 : Below r w W0 := ((((Below.refl _ w).alloc (Nat.le_refl _) (.cells #[.int .u64 67305985] 23)).mono (by omega)).trans (hb1.mono (by simp; omega))).trans (hB1.mono (by omega))
  have hp0 : Pg W0 b r g1 g2 := ⟨zB, zB, hT0, zB_size, zB_size⟩
  have HT0 : Hid (Two W0 b r g1 g2 zB zB) := hT0
  clear hT0 hb1 hB1 bv
  rw [hW0]
  clear hW0
  refine wpIn_rangeFunc_ownG rfl (by omega) (gf := 53) (lb := #[.pointer (some ⟨w1.heap.size + 1, 0, none⟩), .pointer (some ⟨w1.heap.size + 1 + 1, 0, none⟩), .pointer (some ⟨w1.heap.size, 0, none⟩)]) rfl trivial (enters_of Try.func53 (by kernel_rfl) rfl)
    (runs37_2 3 b r g1 g2 (w1.heap.size + 1) (w1.heap.size + 1 + 1) w1.heap.size zB zB W0 (by omega) HT0.out (by omega) (by omega) (by omega) b3.cell b4.cell b2.cell)
    (fun h k => h.trans k)
    (fun W l o o' hl ho _ _ => by have := lt_of_some ho; exact Keep.grown (grownBy_putObj' W l o') (by omega) (by omega) (by omega) (by intro e; cases e; omega) (by intro e; cases e; omega) (by intro e; cases e; omega))
    (Below.refl _ _) (by intro z; cases z <;> rfl)
    (fun pre W => (Boxed W w.heap.size 23 (.int .u64 (vs pre.length)) ∧ Pg W b r g1 g2 ∧ Below r w W ∧ W0.heap.size ≤ W.heap.size) ∧ ((pre = [false] ∨ pre = [false, true]) → W.cell? ⟨g1, 4095, none⟩ = some (.int .u8 2)) ∧ (pre = [false, true] → W.cell? ⟨g2, 0, none⟩ = some (.int .u8 3)))
    (fun _ _ _ => False)
    (fun s A B row hh hg hr => ⟨⟨hh.1.1.kept hg (by intro e; have := (hr _ e.symm).1; omega), hh.1.2.1.grown hg (fun k e => by have := (hr k e).1; omega), hh.1.2.2.1.grown hg (by have := hh.1.2.2.2; omega) (fun k e => by have := (hr k e).1; omega), Nat.le_trans hh.1.2.2.2 hg.size⟩, fun p => cell_kept (hh.2.1 p) hg (fun r e => (hr r e).2), fun p => cell_kept (hh.2.2 p) hg (fun r e => (hr r e).2)⟩)
    (fun _ _ _ _ _ hs _ _ => hs)
    ⟨⟨b0, hp0, hB0, Nat.le_refl _⟩, by simp, by simp⟩
    (fun z => { tmps := #[.pointer (some ⟨b, 0, none⟩), .int .u64 8190, .int .i64 4, .int .u64 67305985, undef, undef, undef, .pointer (some ⟨w.heap.size, 0, none⟩), .int .i64 0, .int .i64 0, run2 g1 g2 z, undef, .pointer (some ⟨b, 0, none⟩), .int .u64 8190, .int .i64 4, .int .i64 0, .int .i64 0, .bool false, undef, .pointer (some ⟨b, 0, none⟩), .int .u64 8190, .int .i64 4, .func (.func 53) #[] #[.pointer (some ⟨w1.heap.size + 1, 0, none⟩), .pointer (some ⟨w1.heap.size + 1 + 1, 0, none⟩), .pointer (some ⟨w1.heap.size, 0, none⟩)], run2 g1 g2 z, undef, undef, undef, undef, undef, undef, undef, undef, undef, undef, undef, undef, undef], defers := [] }) ?assign ?body ?done ?stop
  case assign =>
    intro l z W K hK
    cases z
    · dsimp only [piece, run2] at hK ⊢
      gi_wp2
      exact hK
    · dsimp only [piece, run2] at hK ⊢
      gi_wp2
      exact hK
  case body =>
    rintro l pre z W ⟨⟨e1, hp, hB, hsz⟩, p1, p2⟩ hlt
    have P1 : Hid ((pre = [false] ∨ pre = [false, true]) → W.cell? ⟨g1, 4095, none⟩ = some (.int .u8 2)) := p1
    have n1 : ¬ g1 = w.heap.size := by omega
    have n2 : ¬ w.heap.size = g1 := by omega
    have n3 : ¬ g2 = w.heap.size := by omega
    have n4 : ¬ w.heap.size = g2 := by omega
    have HP : Hid (Pg W b r g1 g2) := hp
    have HB : Hid (Below r w W) := hB
    clear p1 p2 hp hB
    rcases pre with _ | ⟨q, _ | ⟨q2, pre⟩⟩
    · cases z
      · dsimp only [run2]
        gi_wp2
        gi_loopw [26] (fun x wr => (x = .int .i64 0 ∧ wr = W) ∨ (x = .int .i64 1 ∧ Sw w W0 W b r g1 g2 w1.heap.size 262914 wr ∧ (True)) ∨ (x = .int .i64 2 ∧ Sw w W0 W b r g1 g2 w1.heap.size 1027 wr ∧ (wr.cell? ⟨g1, 4095, none⟩ = some (.int .u8 2)))) (fun x _ => (2 - intOf x).toNat)
        case atStart => exact .inl ⟨rfl, rfl⟩
        case round =>
          rcases hrel with ⟨rfl, rfl⟩ | ⟨rfl, hr1, hX1⟩ | ⟨rfl, hr1, hX1⟩
          · have hst : Hid (Sw w W0 wr b r g1 g2 w1.heap.size 67305985 wr) := ⟨e1, HP.out, HB.out, KeepsFrom.refl _ _, ⟨rfl, rfl, rfl, Nat.le_refl _⟩⟩
            have c1 : wr.cell? ⟨w.heap.size, 0, none⟩ = some (.int .u64 67305985) := e1.cell
            have c2 := e1.frozen
            obtain ⟨⟨x, hx⟩, hf⟩ := HP.out.at1 4094 (by omega)
            gi_wp2
            go_roundw
            case rel => exact .inr (.inl ⟨rfl, (hst.out.put1 _ _ l3 (by omega) (by omega) hsz).setv (by decide) l3 (by omega) (by omega) hsz, trivial⟩)
            case measure => simp [intOf]
          · have hst : Hid (Sw w W0 W b r g1 g2 w1.heap.size 262914 wr) := hr1
            have hX : Hid (True) := hX1
            have c1 : wr.cell? ⟨w.heap.size, 0, none⟩ = some (.int .u64 262914) := hr1.box.cell
            have c2 := hr1.box.frozen
            obtain ⟨⟨x, hx⟩, hf⟩ := hr1.pg.at1 4095 (by omega)
            clear hr1 hX1
            gi_wp2
            go_roundw
            case rel => exact .inr (.inr ⟨rfl, (hst.out.put1 _ _ l3 (by omega) (by omega) hsz).setv (by decide) l3 (by omega) (by omega) hsz, by rw [World.cell?_setCell_far _ _ _ _ n2, World.cell?_setCell_same _ _ _ hx]⟩)
            case measure => simp [intOf]
          · have HR : Hid (Sw w W0 W b r g1 g2 w1.heap.size 1027 wr) := hr1
            have HX : Hid (wr.cell? ⟨g1, 4095, none⟩ = some (.int .u8 2)) := hX1
            clear hr1 hX1
            gi_wp2
            exact ⟨HR.out.keeps, HR.out.keep, ⟨HR.out.box, HR.out.pg, HR.out.below, Nat.le_trans hsz HR.out.keeps.size⟩, ⟨fun _ => HX.out, fun e => by simp at e⟩⟩
      · dsimp only [run2]
        gi_wp2
        gi_loopw [26] (fun x wr => (x = .int .i64 0 ∧ wr = W) ∨ (x = .int .i64 1 ∧ Sw w W0 W b r g1 g2 w1.heap.size 262914 wr ∧ (wr.cell? ⟨g2, 0, none⟩ = some (.int .u8 1) ∧ wr.cell? ⟨g1, 4095, none⟩ = W.cell? ⟨g1, 4095, none⟩)) ∨ (x = .int .i64 2 ∧ Sw w W0 W b r g1 g2 w1.heap.size 1027 wr ∧ (wr.cell? ⟨g2, 0, none⟩ = some (.int .u8 1) ∧ wr.cell? ⟨g1, 4095, none⟩ = W.cell? ⟨g1, 4095, none⟩))) (fun x _ => (2 - intOf x).toNat)
        case atStart => exact .inl ⟨rfl, rfl⟩
        case round =>
          rcases hrel with ⟨rfl, rfl⟩ | ⟨rfl, hr1, hX1⟩ | ⟨rfl, hr1, hX1⟩
          · have hst : Hid (Sw w W0 wr b r g1 g2 w1.heap.size 67305985 wr) := ⟨e1, HP.out, HB.out, KeepsFrom.refl _ _, ⟨rfl, rfl, rfl, Nat.le_refl _⟩⟩
            have c1 : wr.cell? ⟨w.heap.size, 0, none⟩ = some (.int .u64 67305985) := e1.cell
            have c2 := e1.frozen
            obtain ⟨⟨x, hx⟩, hf⟩ := HP.out.at2 0 (by omega)
            gi_wp2
            go_roundw
            case rel => exact .inr (.inl ⟨rfl, (hst.out.put2 _ _ l3 (by omega) (by omega) hsz).setv (by decide) l3 (by omega) (by omega) hsz, ⟨by rw [World.cell?_setCell_far _ _ _ _ n4, World.cell?_setCell_same _ _ _ hx], by rw [World.cell?_setCell_far _ _ _ _ n2, World.cell?_setCell_far _ _ _ _ (by show g2 ≠ g1; omega)]⟩⟩)
            case measure => simp [intOf]
          · have hst : Hid (Sw w W0 W b r g1 g2 w1.heap.size 262914 wr) := hr1
            have hX : Hid (wr.cell? ⟨g2, 0, none⟩ = some (.int .u8 1) ∧ wr.cell? ⟨g1, 4095, none⟩ = W.cell? ⟨g1, 4095, none⟩) := hX1
            have c1 : wr.cell? ⟨w.heap.size, 0, none⟩ = some (.int .u64 262914) := hr1.box.cell
            have c2 := hr1.box.frozen
            obtain ⟨⟨x, hx⟩, hf⟩ := hr1.pg.at2 1 (by omega)
            clear hr1 hX1
            gi_wp2
            go_roundw
            case rel => exact .inr (.inr ⟨rfl, (hst.out.put2 _ _ l3 (by omega) (by omega) hsz).setv (by decide) l3 (by omega) (by omega) hsz, ⟨by rw [World.cell?_setCell_far _ _ _ _ n4, World.cell?_setCell_other _ _ _ _ (by simp)]; exact hX.out.1, by rw [World.cell?_setCell_far _ _ _ _ n2, World.cell?_setCell_far _ _ _ _ (by show g2 ≠ g1; omega)]; exact hX.out.2⟩⟩)
            case measure => simp [intOf]
          · have HR : Hid (Sw w W0 W b r g1 g2 w1.heap.size 1027 wr) := hr1
            have HX : Hid (wr.cell? ⟨g2, 0, none⟩ = some (.int .u8 1) ∧ wr.cell? ⟨g1, 4095, none⟩ = W.cell? ⟨g1, 4095, none⟩) := hX1
            clear hr1 hX1
            gi_wp2
            exact ⟨HR.out.keeps, HR.out.keep, ⟨HR.out.box, HR.out.pg, HR.out.below, Nat.le_trans hsz HR.out.keeps.size⟩, ⟨fun e => by simp at e, fun e => by simp at e⟩⟩
    · cases q
      · cases z
        · dsimp only [run2]
          gi_wp2
          gi_loopw [26] (fun x wr => (x = .int .i64 0 ∧ wr = W) ∨ (x = .int .i64 1 ∧ Sw w W0 W b r g1 g2 w1.heap.size 4 wr ∧ (True)) ∨ (x = .int .i64 2 ∧ Sw w W0 W b r g1 g2 w1.heap.size 0 wr ∧ (wr.cell? ⟨g1, 4095, none⟩ = some (.int .u8 4)))) (fun x _ => (2 - intOf x).toNat)
          case atStart => exact .inl ⟨rfl, rfl⟩
          case round =>
            rcases hrel with ⟨rfl, rfl⟩ | ⟨rfl, hr1, hX1⟩ | ⟨rfl, hr1, hX1⟩
            · have hst : Hid (Sw w W0 wr b r g1 g2 w1.heap.size 1027 wr) := ⟨e1, HP.out, HB.out, KeepsFrom.refl _ _, ⟨rfl, rfl, rfl, Nat.le_refl _⟩⟩
              have c1 : wr.cell? ⟨w.heap.size, 0, none⟩ = some (.int .u64 1027) := e1.cell
              have c2 := e1.frozen
              obtain ⟨⟨x, hx⟩, hf⟩ := HP.out.at1 4094 (by omega)
              gi_wp2
              go_roundw
              case rel => exact .inr (.inl ⟨rfl, (hst.out.put1 _ _ l3 (by omega) (by omega) hsz).setv (by decide) l3 (by omega) (by omega) hsz, trivial⟩)
              case measure => simp [intOf]
            · have hst : Hid (Sw w W0 W b r g1 g2 w1.heap.size 4 wr) := hr1
              have hX : Hid (True) := hX1
              have c1 : wr.cell? ⟨w.heap.size, 0, none⟩ = some (.int .u64 4) := hr1.box.cell
              have c2 := hr1.box.frozen
              obtain ⟨⟨x, hx⟩, hf⟩ := hr1.pg.at1 4095 (by omega)
              clear hr1 hX1
              gi_wp2
              go_roundw
              case rel => exact .inr (.inr ⟨rfl, (hst.out.put1 _ _ l3 (by omega) (by omega) hsz).setv (by decide) l3 (by omega) (by omega) hsz, by rw [World.cell?_setCell_far _ _ _ _ n2, World.cell?_setCell_same _ _ _ hx]⟩)
              case measure => simp [intOf]
            · have HR : Hid (Sw w W0 W b r g1 g2 w1.heap.size 0 wr) := hr1
              have HX : Hid (wr.cell? ⟨g1, 4095, none⟩ = some (.int .u8 4)) := hX1
              clear hr1 hX1
              gi_wp2
              exact ⟨HR.out.keeps, HR.out.keep, ⟨HR.out.box, HR.out.pg, HR.out.below, Nat.le_trans hsz HR.out.keeps.size⟩, ⟨fun e => by simp at e, fun e => by simp at e⟩⟩
        · dsimp only [run2]
          gi_wp2
          gi_loopw [26] (fun x wr => (x = .int .i64 0 ∧ wr = W) ∨ (x = .int .i64 1 ∧ Sw w W0 W b r g1 g2 w1.heap.size 4 wr ∧ (wr.cell? ⟨g2, 0, none⟩ = some (.int .u8 3) ∧ wr.cell? ⟨g1, 4095, none⟩ = W.cell? ⟨g1, 4095, none⟩)) ∨ (x = .int .i64 2 ∧ Sw w W0 W b r g1 g2 w1.heap.size 0 wr ∧ (wr.cell? ⟨g2, 0, none⟩ = some (.int .u8 3) ∧ wr.cell? ⟨g1, 4095, none⟩ = W.cell? ⟨g1, 4095, none⟩))) (fun x _ => (2 - intOf x).toNat)
          case atStart => exact .inl ⟨rfl, rfl⟩
          case round =>
            rcases hrel with ⟨rfl, rfl⟩ | ⟨rfl, hr1, hX1⟩ | ⟨rfl, hr1, hX1⟩
            · have hst : Hid (Sw w W0 wr b r g1 g2 w1.heap.size 1027 wr) := ⟨e1, HP.out, HB.out, KeepsFrom.refl _ _, ⟨rfl, rfl, rfl, Nat.le_refl _⟩⟩
              have c1 : wr.cell? ⟨w.heap.size, 0, none⟩ = some (.int .u64 1027) := e1.cell
              have c2 := e1.frozen
              obtain ⟨⟨x, hx⟩, hf⟩ := HP.out.at2 0 (by omega)
              gi_wp2
              go_roundw
              case rel => exact .inr (.inl ⟨rfl, (hst.out.put2 _ _ l3 (by omega) (by omega) hsz).setv (by decide) l3 (by omega) (by omega) hsz, ⟨by rw [World.cell?_setCell_far _ _ _ _ n4, World.cell?_setCell_same _ _ _ hx], by rw [World.cell?_setCell_far _ _ _ _ n2, World.cell?_setCell_far _ _ _ _ (by show g2 ≠ g1; omega)]⟩⟩)
              case measure => simp [intOf]
            · have hst : Hid (Sw w W0 W b r g1 g2 w1.heap.size 4 wr) := hr1
              have hX : Hid (wr.cell? ⟨g2, 0, none⟩ = some (.int .u8 3) ∧ wr.cell? ⟨g1, 4095, none⟩ = W.cell? ⟨g1, 4095, none⟩) := hX1
              have c1 : wr.cell? ⟨w.heap.size, 0, none⟩ = some (.int .u64 4) := hr1.box.cell
              have c2 := hr1.box.frozen
              obtain ⟨⟨x, hx⟩, hf⟩ := hr1.pg.at2 1 (by omega)
              clear hr1 hX1
              gi_wp2
              go_roundw
              case rel => exact .inr (.inr ⟨rfl, (hst.out.put2 _ _ l3 (by omega) (by omega) hsz).setv (by decide) l3 (by omega) (by omega) hsz, ⟨by rw [World.cell?_setCell_far _ _ _ _ n4, World.cell?_setCell_other _ _ _ _ (by simp)]; exact hX.out.1, by rw [World.cell?_setCell_far _ _ _ _ n2, World.cell?_setCell_far _ _ _ _ (by show g2 ≠ g1; omega)]; exact hX.out.2⟩⟩)
              case measure => simp [intOf]
            · have HR : Hid (Sw w W0 W b r g1 g2 w1.heap.size 0 wr) := hr1
              have HX : Hid (wr.cell? ⟨g2, 0, none⟩ = some (.int .u8 3) ∧ wr.cell? ⟨g1, 4095, none⟩ = W.cell? ⟨g1, 4095, none⟩) := hX1
              clear hr1 hX1
              gi_wp2
              exact ⟨HR.out.keeps, HR.out.keep, ⟨HR.out.box, HR.out.pg, HR.out.below, Nat.le_trans hsz HR.out.keeps.size⟩, ⟨fun _ => HX.out.2.trans (P1.out (by simp)), fun _ => HX.out.1⟩⟩
      · cases z
        · dsimp only [run2]
          gi_wp2
          gi_loopw [26] (fun x wr => (x = .int .i64 0 ∧ wr = W) ∨ (x = .int .i64 1 ∧ Sw w W0 W b r g1 g2 w1.heap.size 4 wr ∧ (True)) ∨ (x = .int .i64 2 ∧ Sw w W0 W b r g1 g2 w1.heap.size 0 wr ∧ (wr.cell? ⟨g1, 4095, none⟩ = some (.int .u8 4)))) (fun x _ => (2 - intOf x).toNat)
          case atStart => exact .inl ⟨rfl, rfl⟩
          case round =>
            rcases hrel with ⟨rfl, rfl⟩ | ⟨rfl, hr1, hX1⟩ | ⟨rfl, hr1, hX1⟩
            · have hst : Hid (Sw w W0 wr b r g1 g2 w1.heap.size 1027 wr) := ⟨e1, HP.out, HB.out, KeepsFrom.refl _ _, ⟨rfl, rfl, rfl, Nat.le_refl _⟩⟩
              have c1 : wr.cell? ⟨w.heap.size, 0, none⟩ = some (.int .u64 1027) := e1.cell
              have c2 := e1.frozen
              obtain ⟨⟨x, hx⟩, hf⟩ := HP.out.at1 4094 (by omega)
              gi_wp2
              go_roundw
              case rel => exact .inr (.inl ⟨rfl, (hst.out.put1 _ _ l3 (by omega) (by omega) hsz).setv (by decide) l3 (by omega) (by omega) hsz, trivial⟩)
              case measure => simp [intOf]
            · have hst : Hid (Sw w W0 W b r g1 g2 w1.heap.size 4 wr) := hr1
              have hX : Hid (True) := hX1
              have c1 : wr.cell? ⟨w.heap.size, 0, none⟩ = some (.int .u64 4) := hr1.box.cell
              have c2 := hr1.box.frozen
              obtain ⟨⟨x, hx⟩, hf⟩ := hr1.pg.at1 4095 (by omega)
              clear hr1 hX1
              gi_wp2
              go_roundw
              case rel => exact .inr (.inr ⟨rfl, (hst.out.put1 _ _ l3 (by omega) (by omega) hsz).setv (by decide) l3 (by omega) (by omega) hsz, by rw [World.cell?_setCell_far _ _ _ _ n2, World.cell?_setCell_same _ _ _ hx]⟩)
              case measure => simp [intOf]
            · have HR : Hid (Sw w W0 W b r g1 g2 w1.heap.size 0 wr) := hr1
              have HX : Hid (wr.cell? ⟨g1, 4095, none⟩ = some (.int .u8 4)) := hX1
              clear hr1 hX1
              gi_wp2
              exact ⟨HR.out.keeps, HR.out.keep, ⟨HR.out.box, HR.out.pg, HR.out.below, Nat.le_trans hsz HR.out.keeps.size⟩, ⟨fun e => by simp at e, fun e => by simp at e⟩⟩
        · dsimp only [run2]
          gi_wp2
          gi_loopw [26] (fun x wr => (x = .int .i64 0 ∧ wr = W) ∨ (x = .int .i64 1 ∧ Sw w W0 W b r g1 g2 w1.heap.size 4 wr ∧ (wr.cell? ⟨g2, 0, none⟩ = some (.int .u8 3) ∧ wr.cell? ⟨g1, 4095, none⟩ = W.cell? ⟨g1, 4095, none⟩)) ∨ (x = .int .i64 2 ∧ Sw w W0 W b r g1 g2 w1.heap.size 0 wr ∧ (wr.cell? ⟨g2, 0, none⟩ = some (.int .u8 3) ∧ wr.cell? ⟨g1, 4095, none⟩ = W.cell? ⟨g1, 4095, none⟩))) (fun x _ => (2 - intOf x).toNat)
          case atStart => exact .inl ⟨rfl, rfl⟩
          case round =>
            rcases hrel with ⟨rfl, rfl⟩ | ⟨rfl, hr1, hX1⟩ | ⟨rfl, hr1, hX1⟩
            · have hst : Hid (Sw w W0 wr b r g1 g2 w1.heap.size 1027 wr) := ⟨e1, HP.out, HB.out, KeepsFrom.refl _ _, ⟨rfl, rfl, rfl, Nat.le_refl _⟩⟩
              have c1 : wr.cell? ⟨w.heap.size, 0, none⟩ = some (.int .u64 1027) := e1.cell
              have c2 := e1.frozen
              obtain ⟨⟨x, hx⟩, hf⟩ := HP.out.at2 0 (by omega)
              gi_wp2
              go_roundw
              case rel => exact .inr (.inl ⟨rfl, (hst.out.put2 _ _ l3 (by omega) (by omega) hsz).setv (by decide) l3 (by omega) (by omega) hsz, ⟨by rw [World.cell?_setCell_far _ _ _ _ n4, World.cell?_setCell_same _ _ _ hx], by rw [World.cell?_setCell_far _ _ _ _ n2, World.cell?_setCell_far _ _ _ _ (by show g2 ≠ g1; omega)]⟩⟩)
              case measure => simp [intOf]
            · have hst : Hid (Sw w W0 W b r g1 g2 w1.heap.size 4 wr) := hr1
              have hX : Hid (wr.cell? ⟨g2, 0, none⟩ = some (.int .u8 3) ∧ wr.cell? ⟨g1, 4095, none⟩ = W.cell? ⟨g1, 4095, none⟩) := hX1
              have c1 : wr.cell? ⟨w.heap.size, 0, none⟩ = some (.int .u64 4) := hr1.box.cell
              have c2 := hr1.box.frozen
              obtain ⟨⟨x, hx⟩, hf⟩ := hr1.pg.at2 1 (by omega)
              clear hr1 hX1
              gi_wp2
              go_roundw
              case rel => exact .inr (.inr ⟨rfl, (hst.out.put2 _ _ l3 (by omega) (by omega) hsz).setv (by decide) l3 (by omega) (by omega) hsz, ⟨by rw [World.cell?_setCell_far _ _ _ _ n4, World.cell?_setCell_other _ _ _ _ (by simp)]; exact hX.out.1, by rw [World.cell?_setCell_far _ _ _ _ n2, World.cell?_setCell_far _ _ _ _ (by show g2 ≠ g1; omega)]; exact hX.out.2⟩⟩)
              case measure => simp [intOf]
            · have HR : Hid (Sw w W0 W b r g1 g2 w1.heap.size 0 wr) := hr1
              have HX : Hid (wr.cell? ⟨g2, 0, none⟩ = some (.int .u8 3) ∧ wr.cell? ⟨g1, 4095, none⟩ = W.cell? ⟨g1, 4095, none⟩) := hX1
              clear hr1 hX1
              gi_wp2
              exact ⟨HR.out.keeps, HR.out.keep, ⟨HR.out.box, HR.out.pg, HR.out.below, Nat.le_trans hsz HR.out.keeps.size⟩, ⟨fun e => by simp at e, fun e => by simp at e⟩⟩
    · simp at hlt; omega
  case done =>
    rintro D ys W hD rfl ⟨⟨e1, hp, hB, hsz⟩, p1, p2⟩ hK
    gi_wp2
    refine ⟨by simp, .inl ⟨_, _, rfl, run_takeDeferred hK, ?_⟩⟩
    have hg := grownBy_putObj' W D (.deferred none)
    have hr : ∀ k, some D = some k → ∃ o : Obj, W.heap[k]? = some o ∧ o.isCells = false := fun k e => by cases e; exact ⟨_, hK, rfl⟩
    have hp' := hp.grown hg (fun k e => by cases e; omega)
    exact ⟨_, results_tmp rfl _ _ _, rfl, (by obtain ⟨c1, c2, h, _, _⟩ := hp'; exact ⟨c1, c2, h⟩), cell_kept (p1 (by simp)) hg hr, cell_kept (p2 (by simp)) hg hr, hB.grown hg (by omega) (fun k e => by cases e; omega)⟩
  case stop =>
    rintro D c pre W _ _ h _
    exact h.elim
end Go.Proofs.Ytndbkkldfinggab
