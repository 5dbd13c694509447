/- Walks of the first question of every statement (speaks): a number out of two pages. -/
import Derived.Test.YtndbkkldfinggabP1
import Derived.RangeFuncWrites
import Derived.RangeFuncNested
namespace Go.Proofs.Ytndbkkldfinggab
open Go.RowKit Go.Shelf
attribute [local go_sem] Oper.semAt_some
def bit : Bool → Int
  | false => 2
  | true => 3
def acc : List Bool → Int
  | [] => 0
  | [q] => bit q
  | q :: z :: _ => bit q + 256 * bit z
def run1 (g1 g2 : Nat) : Bool → Value
  | false => .slice (some ⟨g1, 4095, none⟩) 1 1
  | true => .slice (some ⟨g2, 0, none⟩) 1 4096
theorem Keep.grown {b r m : Nat} {A B : World} {row : Option Nat} (hg : A.grownBy B row) (h1 : r < A.heap.size) (h2 : b < A.heap.size) (h3 : m < A.heap.size) (n1 : some r ≠ row) (n2 : some b ≠ row) (n3 : some m ≠ row) : Keep b r m A B :=
  ⟨hg.block r h1 n1, by simp only [World.cell?, hg.block b h2 n2], by simp only [World.cell?, hg.block m h3 n3], hg.size⟩
structure St (w W0 W : World) (b r : Nat) (u v : Int) (W' : World) : Prop where
  b1 : Boxed W' w.heap.size 23 (.int .u64 u)
  b2 : Boxed W' (w.heap.size + 1) 3 (.int .i64 v)
  below : Below w.heap.size w W'
  keeps : KeepsFrom W0.heap.size W W'
  keep : Keep b r (w.heap.size + 1 + 1) W W'
theorem St.start {w W0 W : World} {b r : Nat} {u v : Int} (e1 : Boxed W w.heap.size 23 (.int .u64 u)) (e2 : Boxed W (w.heap.size + 1) 3 (.int .i64 v)) (hB : Below w.heap.size w W) : St w W0 W b r u v W := ⟨e1, e2, hB, KeepsFrom.refl _ _, ⟨rfl, rfl, rfl, Nat.le_refl _⟩⟩
theorem St.step {w W0 W W' W'' : World} {b r : Nat} {u v u' v' : Int} (h : St w W0 W b r u v W') {row : Option Nat} (hg : W'.grownBy W'' row) (hrow : ∀ k, row = some k → w.heap.size ≤ k ∧ k ≤ w.heap.size + 1) (l1 : r < w.heap.size) (l2 : b < w.heap.size) (hs : W0.heap.size = w.heap.size + 5) (hsz : W0.heap.size ≤ W.heap.size)
    (x1 : Boxed W'' w.heap.size 23 (.int .u64 u')) (x2 : Boxed W'' (w.heap.size + 1) 3 (.int .i64 v')) : St w W0 W b r u' v' W'' := by
  have z := h.keeps.size
  refine ⟨x1, x2, h.below.grown hg h.below.size (fun k e => (hrow k e).1), h.keeps.trans (KeepsFrom.of_grownBy hg (fun k e => by have := (hrow k e).2; omega)), h.keep.trans (Keep.grown hg (by omega) (by omega) (by omega) ?_ ?_ ?_)⟩
  · intro e; have := hrow _ e.symm; omega
  · intro e; have := hrow _ e.symm; omega
  · intro e; have := hrow _ e.symm; omega
theorem St.drew {w W0 W W' : World} {b r : Nat} {u v : Int} (h : St w W0 W b r u v W') : St w W0 W b r u v W'.drew := ⟨h.b1, h.b2, h.below.drew, ⟨h.keeps.size, h.keeps.same⟩, h.keep⟩
theorem St.set1 {w W0 W W' : World} {b r : Nat} {u v x u' : Int} (h : St w W0 W b r u v W') (hx : x = u') (l1 : r < w.heap.size) (l2 : b < w.heap.size) (hs : W0.heap.size = w.heap.size + 5) (hsz : W0.heap.size ≤ W.heap.size) : St w W0 W b r u' v (W'.setCell ⟨w.heap.size, 0, none⟩ (.int .u64 x)) := by
  subst hx
  exact h.step (grownBy_setCell' W' w.heap.size _) (fun k e => by cases e; omega) l1 l2 hs hsz (h.b1.set _) (h.b2.other (by omega) _)
theorem St.set2 {w W0 W W' : World} {b r : Nat} {u v x v' : Int} (h : St w W0 W b r u v W') (hx : x = v') (l1 : r < w.heap.size) (l2 : b < w.heap.size) (hs : W0.heap.size = w.heap.size + 5) (hsz : W0.heap.size ≤ W.heap.size) : St w W0 W b r u v' (W'.setCell ⟨w.heap.size + 1, 0, none⟩ (.int .i64 x)) := by
  subst hx
  exact h.step (grownBy_setCell' W' (w.heap.size + 1) _) (fun k e => by cases e; omega) l1 l2 hs hsz (h.b1.other (by omega) _) (h.b2.set _)
set_option maxRecDepth 100000 in
set_option maxHeartbeats 2000000 in
theorem value18 (b r g1 g2 : Nat) (c1 c2 : Array Value) (w : World) (h : Two w b r g1 g2 c1 c2) (hx : w.cell? ⟨g1, 4095, none⟩ = some (.int .u8 2)) (hy : w.cell? ⟨g2, 0, none⟩ = some (.int .u8 3)) : Calls Try.prog 31 #[.pointer (some ⟨b, 0, none⟩), .int .u64 8191, .int .i64 2] w fun e w' => e = .returned (.int .u64 770) ∧ Below w.heap.size w w' := by
  have HH : Hid (Two w b r g1 g2 c1 c2) := h
  obtain ⟨l1, l2, l3⟩ := h.sizes
  have l4 := h.lt3
  clear h
  refine (callsIn_wide (n := 4)).1 ?_
  refine callsIn_of_wp_marks Try.func31 rfl trivial ?_ rfl
  simp only [Try.ntmps31, List.size_toArray, List.length_cons, List.length_nil, Nat.reduceAdd, Nat.reduceSub, Array.replicate_succ, Array.replicate_zero, List.push_toArray, List.append_toArray, List.nil_append, List.cons_append]
  gi_wp2_with (refine ⟨trivial, ?_⟩; gi_at_call 37; refine (callsIn_wide.2 (runs29 b 8191 2 _)).mono ?_; rintro e w' ⟨rfl, rfl⟩)
  obtain ⟨W0, hW0⟩ : ∃ W0, (((((w.alloc (.cells #[.int .u64 0] 23)).alloc (.cells #[.int .i64 0] 3)).alloc (.cells #[.pointer (some ⟨b, 0, none⟩)] 26)).alloc (.cells #[.int .u64 8191] 23)).alloc (.cells #[.int .i64 2] 3)) = W0 := ⟨_, rfl⟩
  have b0 : Boxed W0 w.heap.size 23 (.int .u64 0) := by rw [← hW0]; exact (((((Boxed.new w 23 (.int .u64 0)).alloc _).alloc _).alloc _).alloc _)
  have b1 : Boxed W0 (w.heap.size + 1) 3 (.int .i64 0) := by rw [← hW0]; have := ((((Boxed.new (w.alloc (.cells #[.int .u64 0] 23)) 3 (.int .i64 0)).alloc (.cells #[.pointer (some ⟨b, 0, none⟩)] 26)).alloc (.cells #[.int .u64 8191] 23)).alloc (.cells #[.int .i64 2] 3)); simpa using this
  have b2 : Boxed W0 (w.heap.size + 1 + 1) 26 (.pointer (some ⟨b, 0, none⟩)) := by rw [← hW0]; have := (((Boxed.new ((w.alloc (.cells #[.int .u64 0] 23)).alloc (.cells #[.int .i64 0] 3)) 26 (.pointer (some ⟨b, 0, none⟩))).alloc (.cells #[.int .u64 8191] 23)).alloc (.cells #[.int .i64 2] 3)); simpa using this
  have b3 : Boxed W0 (w.heap.size + 1 + 1 + 1) 23 (.int .u64 8191) := by rw [← hW0]; have := ((Boxed.new (((w.alloc (.cells #[.int .u64 0] 23)).alloc (.cells #[.int .i64 0] 3)).alloc (.cells #[.pointer (some ⟨b, 0, none⟩)] 26)) 23 (.int .u64 8191)).alloc (.cells #[.int .i64 2] 3)); simpa using this
  have b4 : Boxed W0 (w.heap.size + 1 + 1 + 1 + 1) 3 (.int .i64 2) := by rw [← hW0]; have := (Boxed.new ((((w.alloc (.cells #[.int .u64 0] 23)).alloc (.cells #[.int .i64 0] 3)).alloc (.cells #[.pointer (some ⟨b, 0, none⟩)] 26)).alloc (.cells #[.int .u64 8191] 23)) 3 (.int .i64 2)); simpa using this
  have hs : W0.heap.size = w.heap.size + 5 := by rw [← hW0]; simp
  have hB0 : Below w.heap.size w W0 := by rw [← hW0]; exact (((((Below.refl _ w).alloc (Nat.le_refl _) _).alloc (by simp) _).alloc (by simp; omega) _).alloc (by simp; omega) _).alloc (by simp; omega) _
  rw [hW0]
  clear hW0
  refine wpIn_rangeFunc_ownG rfl (by omega) (gf := 53) (lb := #[.pointer (some ⟨w.heap.size + 1 + 1 + 1, 0, none⟩), .pointer (some ⟨w.heap.size + 1 + 1 + 1 + 1, 0, none⟩), .pointer (some ⟨w.heap.size + 1 + 1, 0, none⟩)]) rfl trivial (enters_of Try.func53 (by kernel_rfl) rfl)
    (runs37_1 3 b r g1 g2 (w.heap.size + 1 + 1 + 1) (w.heap.size + 1 + 1 + 1 + 1) (w.heap.size + 1 + 1) c1 c2 W0 (by omega) (HH.out.below hB0) (by omega) (by omega) (by omega) b3.cell b4.cell b2.cell)
    (fun h k => h.trans k)
    (fun W l o o' hl ho _ _ => by have := lt_of_some ho; exact Keep.grown (grownBy_putObj' W l o') (by omega) (by omega) (by omega) (by intro e; cases e; omega) (by intro e; cases e; omega) (by intro e; cases e; omega))
    (Below.refl _ _) (by intro z; cases z <;> rfl)
    (fun pre W => (Boxed W w.heap.size 23 (.int .u64 (acc pre)) ∧ Boxed W (w.heap.size + 1) 3 (.int .i64 (8 * (pre.length : Int)))) ∧ W0.heap.size ≤ W.heap.size ∧ Below w.heap.size w W)
    (fun _ _ _ => False)
    (fun s A B row hh hg hr => ⟨⟨hh.1.1.kept hg (by intro e; have := (hr _ e.symm).1; omega), hh.1.2.kept hg (by intro e; have := (hr _ e.symm).1; omega)⟩, Nat.le_trans hh.2.1 hg.size, hh.2.2.grown hg hh.2.2.size (fun k e => by have := (hr k e).1; omega)⟩)
    (fun _ _ _ _ _ hs _ _ => hs)
    ⟨⟨b0, b1⟩, Nat.le_refl _, hB0⟩
    (fun z => { tmps := #[.pointer (some ⟨b, 0, none⟩), .int .u64 8191, .int .i64 2, undef, undef, undef, .int .u64 0, .pointer (some ⟨w.heap.size, 0, none⟩), .pointer (some ⟨w.heap.size + 1, 0, none⟩), run1 g1 g2 z, undef, undef, .pointer (some ⟨b, 0, none⟩), .int .u64 8191, .int .i64 2, .func (.func 53) #[] #[.pointer (some ⟨w.heap.size + 1 + 1 + 1, 0, none⟩), .pointer (some ⟨w.heap.size + 1 + 1 + 1 + 1, 0, none⟩), .pointer (some ⟨w.heap.size + 1 + 1, 0, none⟩)], run1 g1 g2 z, undef, undef, undef, undef, undef, undef, undef, undef, undef, undef, undef, undef, undef, undef, undef, undef], defers := [] }) ?assign ?body ?done ?stop
  case assign =>
    intro l z W K hK
    cases z
    · dsimp only [piece, run1] at hK ⊢
      gi_wp2
      exact hK
    · dsimp only [piece, run1] at hK ⊢
      gi_wp2
      exact hK
  case body =>
    rintro l pre z W ⟨⟨e1, e2⟩, hsz, hB⟩ hlt
    have hx1 : W.cell? ⟨g1, 4095, none⟩ = some (.int .u8 2) := (hB.cell (p := ⟨g1, 4095, none⟩) (by show g1 < _; omega)).trans hx
    have hy1 : W.cell? ⟨g2, 0, none⟩ = some (.int .u8 3) := (hB.cell (p := ⟨g2, 0, none⟩) l3).trans hy
    rcases pre with _ | ⟨q, _ | ⟨q2, pre⟩⟩
    · have c1' : W.cell? ⟨w.heap.size, 0, none⟩ = some (.int .u64 0) := e1.cell
      have c2' : W.cell? ⟨w.heap.size + 1, 0, none⟩ = some (.int .i64 0) := e2.cell
      have f1' := e1.frozen
      have f2' := e2.frozen
      cases z
      · dsimp only [run1]
        gi_wp2
        gi_loopw [19] (fun x wr => (x = .int .i64 0 ∧ wr = W) ∨ (x = .int .i64 1 ∧ St w W0 W b r 2 8 wr)) (fun x _ => (1 - intOf x).toNat)
        case atStart => exact .inl ⟨rfl, rfl⟩
        case round =>
          rcases hrel with ⟨rfl, rfl⟩ | ⟨rfl, hr1⟩
          · have hst : St w W0 wr b r 0 0 wr := St.start e1 e2 hB
            gi_wp2
            gi_region
            all_goals
              gi_wp2
              go_roundw
              case rel => exact .inr ⟨rfl, by repeat (first | exact hst | refine St.drew ?_ | refine St.set2 (v := 0) ?_ (by decide) l1 l2 hs hsz | refine St.set1 (u := 0) ?_ (by decide) l1 l2 hs hsz)⟩
              case measure => simp [intOf]
          · have HR : Hid (St w W0 W b r 2 8 wr) := hr1
            clear hr1
            gi_wp2
            exact ⟨HR.out.keeps, HR.out.keep, ⟨HR.out.b1, HR.out.b2⟩, Nat.le_trans hsz HR.out.keeps.size, HR.out.below⟩
      · dsimp only [run1]
        gi_wp2
        gi_loopw [19] (fun x wr => (x = .int .i64 0 ∧ wr = W) ∨ (x = .int .i64 1 ∧ St w W0 W b r 3 8 wr)) (fun x _ => (1 - intOf x).toNat)
        case atStart => exact .inl ⟨rfl, rfl⟩
        case round =>
          rcases hrel with ⟨rfl, rfl⟩ | ⟨rfl, hr1⟩
          · have hst : St w W0 wr b r 0 0 wr := St.start e1 e2 hB
            gi_wp2
            gi_region
            all_goals
              gi_wp2
              go_roundw
              case rel => exact .inr ⟨rfl, by repeat (first | exact hst | refine St.drew ?_ | refine St.set2 (v := 0) ?_ (by decide) l1 l2 hs hsz | refine St.set1 (u := 0) ?_ (by decide) l1 l2 hs hsz)⟩
              case measure => simp [intOf]
          · have HR : Hid (St w W0 W b r 3 8 wr) := hr1
            clear hr1
            gi_wp2
            exact ⟨HR.out.keeps, HR.out.keep, ⟨HR.out.b1, HR.out.b2⟩, Nat.le_trans hsz HR.out.keeps.size, HR.out.below⟩
    · cases q
      · have c1' : W.cell? ⟨w.heap.size, 0, none⟩ = some (.int .u64 2) := e1.cell
        have c2' : W.cell? ⟨w.heap.size + 1, 0, none⟩ = some (.int .i64 8) := e2.cell
        have f1' := e1.frozen
        have f2' := e2.frozen
        cases z
        · dsimp only [run1]
          gi_wp2
          gi_loopw [19] (fun x wr => (x = .int .i64 0 ∧ wr = W) ∨ (x = .int .i64 1 ∧ St w W0 W b r 514 16 wr)) (fun x _ => (1 - intOf x).toNat)
          case atStart => exact .inl ⟨rfl, rfl⟩
          case round =>
            rcases hrel with ⟨rfl, rfl⟩ | ⟨rfl, hr1⟩
            · have hst : St w W0 wr b r 2 8 wr := St.start e1 e2 hB
              gi_wp2
              gi_region
              all_goals
                gi_wp2
                go_roundw
                case rel => exact .inr ⟨rfl, by repeat (first | exact hst | refine St.drew ?_ | refine St.set2 (v := 8) ?_ (by decide) l1 l2 hs hsz | refine St.set1 (u := 2) ?_ (by decide) l1 l2 hs hsz)⟩
                case measure => simp [intOf]
            · have HR : Hid (St w W0 W b r 514 16 wr) := hr1
              clear hr1
              gi_wp2
              exact ⟨HR.out.keeps, HR.out.keep, ⟨HR.out.b1, HR.out.b2⟩, Nat.le_trans hsz HR.out.keeps.size, HR.out.below⟩
        · dsimp only [run1]
          gi_wp2
          gi_loopw [19] (fun x wr => (x = .int .i64 0 ∧ wr = W) ∨ (x = .int .i64 1 ∧ St w W0 W b r 770 16 wr)) (fun x _ => (1 - intOf x).toNat)
          case atStart => exact .inl ⟨rfl, rfl⟩
          case round =>
            rcases hrel with ⟨rfl, rfl⟩ | ⟨rfl, hr1⟩
            · have hst : St w W0 wr b r 2 8 wr := St.start e1 e2 hB
              gi_wp2
              gi_region
              all_goals
                gi_wp2
                go_roundw
                case rel => exact .inr ⟨rfl, by repeat (first | exact hst | refine St.drew ?_ | refine St.set2 (v := 8) ?_ (by decide) l1 l2 hs hsz | refine St.set1 (u := 2) ?_ (by decide) l1 l2 hs hsz)⟩
                case measure => simp [intOf]
            · have HR : Hid (St w W0 W b r 770 16 wr) := hr1
              clear hr1
              gi_wp2
              exact ⟨HR.out.keeps, HR.out.keep, ⟨HR.out.b1, HR.out.b2⟩, Nat.le_trans hsz HR.out.keeps.size, HR.out.below⟩
      · have c1' : W.cell? ⟨w.heap.size, 0, none⟩ = some (.int .u64 3) := e1.cell
        have c2' : W.cell? ⟨w.heap.size + 1, 0, none⟩ = some (.int .i64 8) := e2.cell
        have f1' := e1.frozen
        have f2' := e2.frozen
        cases z
        · dsimp only [run1]
          gi_wp2
          gi_loopw [19] (fun x wr => (x = .int .i64 0 ∧ wr = W) ∨ (x = .int .i64 1 ∧ St w W0 W b r 515 16 wr)) (fun x _ => (1 - intOf x).toNat)
          case atStart => exact .inl ⟨rfl, rfl⟩
          case round =>
            rcases hrel with ⟨rfl, rfl⟩ | ⟨rfl, hr1⟩
            · have hst : St w W0 wr b r 3 8 wr := St.start e1 e2 hB
              gi_wp2
              gi_region
              all_goals
                gi_wp2
                go_roundw
                case rel => exact .inr ⟨rfl, by repeat (first | exact hst | refine St.drew ?_ | refine St.set2 (v := 8) ?_ (by decide) l1 l2 hs hsz | refine St.set1 (u := 3) ?_ (by decide) l1 l2 hs hsz)⟩
                case measure => simp [intOf]
            · have HR : Hid (St w W0 W b r 515 16 wr) := hr1
              clear hr1
              gi_wp2
              exact ⟨HR.out.keeps, HR.out.keep, ⟨HR.out.b1, HR.out.b2⟩, Nat.le_trans hsz HR.out.keeps.size, HR.out.below⟩
        · dsimp only [run1]
          gi_wp2
          gi_loopw [19] (fun x wr => (x = .int .i64 0 ∧ wr = W) ∨ (x = .int .i64 1 ∧ St w W0 W b r 771 16 wr)) (fun x _ => (1 - intOf x).toNat)
          case atStart => exact .inl ⟨rfl, rfl⟩
          case round =>
            rcases hrel with ⟨rfl, rfl⟩ | ⟨rfl, hr1⟩
            · have hst : St w W0 wr b r 3 8 wr := St.start e1 e2 hB
              gi_wp2
              gi_region
              all_goals
                gi_wp2
                go_roundw
                case rel => exact .inr ⟨rfl, by repeat (first | exact hst | refine St.drew ?_ | refine St.set2 (v := 8) ?_ (by decide) l1 l2 hs hsz | refine St.set1 (u := 3) ?_ (by decide) l1 l2 hs hsz)⟩
                case measure => simp [intOf]
            · have HR : Hid (St w W0 W b r 771 16 wr) := hr1
              clear hr1
              gi_wp2
              exact ⟨HR.out.keeps, HR.out.keep, ⟨HR.out.b1, HR.out.b2⟩, Nat.le_trans hsz HR.out.keeps.size, HR.out.below⟩
    · simp at hlt; omega
  case done =>
    rintro D ys W hD rfl ⟨⟨e1, e2⟩, hsz, hB⟩ hK
    have e3 := e1.cell
    gi_wp2
    refine ⟨by simp, .inl ⟨_, _, rfl, run_takeDeferred hK, ?_⟩⟩
    exact ⟨_, results_tmp rfl _ _ _, rfl, hB.trans (belowK_b (w := w) (Nat.le_refl _) W D _ _ (by omega) hK rfl rfl)⟩
  case stop =>
    rintro D c pre W _ _ h _
    exact h.elim
end Go.Proofs.Ytndbkkldfinggab
