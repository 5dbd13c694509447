/- Two instructions the same. Two rows of instructions, of blocks, of functions the same. Two functions, two programs the same. -/
import Derived.Test.YtdppoblbenbafaaGreatDoorJY
import Derived.Test.YtdppoblbenbafaaGreatDoorShelf2
namespace Go.Proofs.YtdppoblbenbafaaGreatDoor
section
open Go.RowKit Go.Shelf
set_option maxHeartbeats 8000000
theorem eq150 (xs ys : List Int) (a1 a2 : Option Addr) (c1 c2 : Nat) (w : World) (h1 : ArA w a1 c1 xs) (h2 : ArA w a2 c2 ys) : Calls Tryz.prog 150 #[.slice a1 xs.length c1, .slice a2 ys.length c2] w fun e w' => e = .returned (.bool (xs == ys)) ∧ G w w' := by
  by_cases hn : xs.length = ys.length
  · by_cases h0 : xs.length = 0
    · have e1 : xs = [] := List.eq_nil_of_length_eq_zero h0
      have e2 : ys = [] := List.eq_nil_of_length_eq_zero (by omega)
      subst e1 e2
      exact (Tryz.slices_Equal_int_empty a1 a2 c1 0 c2 w (by decide)).mono fun e w' ⟨p, q⟩ => ⟨p, by rw [q]; exact G.refl _⟩
    · obtain ⟨g1, o1, rfl, k1⟩ := h1.2.2 (by omega)
      obtain ⟨g2, o2, rfl, k2⟩ := h2.2.2 (by omega)
      have t := Tryz.slices_Equal_int g1 o1 xs.length c1 g2 o2 ys.length c2 xs ys w (Nat.le_refl _) (Nat.le_refl _) (by have := h1.1; have := h1.2.1; omega) (by have := h2.1; have := h2.2.1; omega) (fun j hj => k1 j _ (by simp [List.getD, hj])) (fun j hj => k2 j _ (by simp [List.getD, hj]))
      rw [List.take_length, List.take_length] at t
      exact t.mono fun e w' ⟨p, q, hq⟩ => ⟨p, by rw [hq]; exact (G.refl _).drewN q⟩
  · have e : (xs == ys) = false := by
      rw [beq_eq_false_iff_ne]
      intro e
      exact hn (by rw [e])
    rw [e]
    exact (Tryz.slices_Equal_int_lens a1 a2 xs.length c1 ys.length c2 w hn).mono fun e w' ⟨p, q⟩ => ⟨p, by rw [q]; exact G.refl _⟩
/-- Are two instructions the same? -/
def inE (x y : Ins) : Bool := (x.op == y.op) && ((x.d == y.d) && ((x.a == y.a) && ((x.b == y.b) && ((x.n == y.n) && (decide (x.nm = y.nm) && ((x.gs == y.gs) && ((x.to == y.to) && (x.el == y.el))))))))

set_option maxRecDepth 100000 in
theorem sameIns123 (x y : Ins) (w : World) (hx : ArA w x.ar x.ac x.gs) (hy : ArA w y.ar y.ac y.gs) : Calls Tryz.prog 123 #[inV x, inV y] w fun e w' => e = .returned (.bool (inE x y)) ∧ G w w' := by
  have HQ : Hid (∀ W, G w W → Calls Tryz.prog 150 #[.slice x.ar x.gs.length x.ac, .slice y.ar y.gs.length y.ac] W fun e w' => e = .returned (.bool (x.gs == y.gs)) ∧ G W w') := fun W hW => eq150 x.gs y.gs x.ar y.ar x.ac y.ac W (hx.below hW.below) (hy.below hW.below)
  have hx1 := hx.1
  have hx2 := hx.2.1
  have hy1 := hy.1
  have hy2 := hy.2.1
  clear hx hy
  obtain ⟨xop, xd, xa, xb, xn, xm, xar, xac, xg, xt, xe⟩ := x
  obtain ⟨yop, yd, ya, yb, yn, ym, yar, yac, yg, yt, ye⟩ := y
  have HV : Hid (inE ⟨xop, xd, xa, xb, xn, xm, xar, xac, xg, xt, xe⟩ ⟨yop, yd, ya, yb, yn, ym, yar, yac, yg, yt, ye⟩ = ((xop == yop) && ((xd == yd) && ((xa == ya) && ((xb == yb) && ((xn == yn) && (decide (xm = ym) && ((xg == yg) && ((xt == yt) && (xe == ye)))))))))) := rfl
  unfold inV
  simp only at *
  generalize inE _ _ = R at *
  generalize (xg == yg) = XG at *
  generalize xg.length = xl at *
  generalize yg.length = yl at *
  have HB : Hid (∀ o o', G w ((w.alloc o).alloc o')) := fun o o' => ((G.refl w).alloc o).alloc o' 
  by_cases h_op : xop = yop
  case neg =>
    have q_op : (xop == yop) = false := by simpa using h_op
    have HE : Hid (false = R) := by show _ = _; rw [HV.out]; simp [*]
    go_enter Tryz.func123, Tryz.ntmps123
    go_wp2
    go_ret
    exact ⟨ret_bool HE.out, HB.out _ _⟩
  subst h_op
  by_cases h_d : xd = yd
  case neg =>
    have q_d : (xd == yd) = false := by simpa using h_d
    have HE : Hid (false = R) := by show _ = _; rw [HV.out]; simp [*]
    go_enter Tryz.func123, Tryz.ntmps123
    go_wp2
    go_ret
    exact ⟨ret_bool HE.out, HB.out _ _⟩
  subst h_d
  by_cases h_a : xa = ya
  case neg =>
    have q_a : (xa == ya) = false := by simpa using h_a
    have HE : Hid (false = R) := by show _ = _; rw [HV.out]; simp [*]
    go_enter Tryz.func123, Tryz.ntmps123
    go_wp2
    go_ret
    exact ⟨ret_bool HE.out, HB.out _ _⟩
  subst h_a
  by_cases h_b : xb = yb
  case neg =>
    have q_b : (xb == yb) = false := by simpa using h_b
    have HE : Hid (false = R) := by show _ = _; rw [HV.out]; simp [*]
    go_enter Tryz.func123, Tryz.ntmps123
    go_wp2
    go_ret
    exact ⟨ret_bool HE.out, HB.out _ _⟩
  subst h_b
  by_cases h_n : xn = yn
  case neg =>
    have q_n : (xn == yn) = false := by simpa using h_n
    have HE : Hid (false = R) := by show _ = _; rw [HV.out]; simp [*]
    go_enter Tryz.func123, Tryz.ntmps123
    go_wp2
    go_ret
    exact ⟨ret_bool HE.out, HB.out _ _⟩
  subst h_n
  by_cases h_m : xm = ym
  case neg =>
    obtain ⟨q_m, q_m2⟩ := nm_ne h_m
    have HE : Hid (false = R) := by show _ = _; rw [HV.out]; simp [*]
    go_enter Tryz.func123, Tryz.ntmps123
    go_wp2
    go_ret
    exact ⟨ret_bool HE.out, HB.out _ _⟩
  subst h_m
  have HC : Hid (∀ o o' W, G ((w.alloc o).alloc o') W → ∀ j, W.cell? ⟨w.heap.size, j, none⟩ = ((w.alloc o).alloc o').cell? ⟨w.heap.size, j, none⟩ ∧ W.cell? ⟨w.heap.size + 1, j, none⟩ = ((w.alloc o).alloc o').cell? ⟨w.heap.size + 1, j, none⟩) := fun o o' W hW j => ⟨(bcell hW.below).1 _ _ (by simp; omega), (bcell hW.below).1 _ _ (by simp)⟩
  cases XG with
  | false =>
    have HE : Hid (false = R) := by show _ = _; rw [HV.out]; simp
    go_enter Tryz.func123, Tryz.ntmps123
    go_wp2_with fail
    refine (HQ.out _ (HB.out _ _)).mono ?_
    rintro e w1 ⟨rfl, hg⟩
    go_wp2
    go_ret
    exact ⟨ret_bool HE.out, (HB.out _ _).trans hg⟩
  | true =>
    by_cases h_t : xt = yt
    case neg =>
      have q_t : (xt == yt) = false := by simpa using h_t
      have HE : Hid (false = R) := by show _ = _; rw [HV.out]; simp [*]
      go_enter Tryz.func123, Tryz.ntmps123
      go_wp2_with fail
      refine (HQ.out _ (HB.out _ _)).mono ?_
      rintro e w1 ⟨rfl, hg⟩
      have HG1 : Hid (G w w1) := (HB.out _ _).trans hg
      have c7 : w1.cell? ⟨w.heap.size, 7, none⟩ = some (.int .i64 xt) := ((HC.out _ _ w1 hg 7).1).trans (by go_simp)
      have d7 : w1.cell? ⟨w.heap.size + 1, 7, none⟩ = some (.int .i64 yt) := ((HC.out _ _ w1 hg 7).2).trans (by go_simp)
      clear hg
      go_wp2
      go_ret
      exact ⟨ret_bool HE.out, HG1.out⟩
    subst h_t
    have HE : Hid ((xe == ye) = R) := by show _ = _; rw [HV.out]; simp
    go_enter Tryz.func123, Tryz.ntmps123
    go_wp2_with fail
    refine (HQ.out _ (HB.out _ _)).mono ?_
    rintro e w1 ⟨rfl, hg⟩
    have HG1 : Hid (G w w1) := (HB.out _ _).trans hg
    have c7 : w1.cell? ⟨w.heap.size, 7, none⟩ = some (.int .i64 xt) := ((HC.out _ _ w1 hg 7).1).trans (by go_simp)
    have d7 : w1.cell? ⟨w.heap.size + 1, 7, none⟩ = some (.int .i64 xt) := ((HC.out _ _ w1 hg 7).2).trans (by go_simp)
    have c8 : w1.cell? ⟨w.heap.size, 8, none⟩ = some (.int .i64 xe) := ((HC.out _ _ w1 hg 8).1).trans (by go_simp)
    have d8 : w1.cell? ⟨w.heap.size + 1, 8, none⟩ = some (.int .i64 ye) := ((HC.out _ _ w1 hg 8).2).trans (by go_simp)
    clear hg
    go_wp2
    go_ret
    exact ⟨ret_bool HE.out, HG1.out⟩
end
section
open Go.RowKit Go.Shelf
set_option maxHeartbeats 8000000
/-- Two lists, one by one. -/
def alE {α : Type} (p : α → α → Bool) : List α → List α → Bool
  | [], [] => true
  | x :: a, y :: b => p x y && alE p a b
  | _, _ => false
theorem alE_len {α : Type} (p : α → α → Bool) : ∀ {a b : List α}, a.length ≠ b.length → alE p a b = false
  | [], [], h => absurd rfl h
  | x :: a, y :: b, h => by
    unfold alE
    rw [alE_len p (a := a) (b := b) (by simpa using h), Bool.and_false]
  | [], _ :: _, _ => rfl
  | _ :: _, [], _ => rfl
theorem alE_at {α : Type} (p : α → α → Bool) {a b : List α} {j : Nat} {x y : α} (hx : a[j]? = some x) (hy : b[j]? = some y) : alE p (a.drop j) (b.drop j) = (p x y && alE p (a.drop (j + 1)) (b.drop (j + 1))) := by
  obtain ⟨h1, e1⟩ := List.getElem?_eq_some_iff.1 hx
  obtain ⟨h2, e2⟩ := List.getElem?_eq_some_iff.1 hy
  rw [List.drop_eq_getElem_cons h1, List.drop_eq_getElem_cons h2, e1, e2]
  rfl
theorem alE_refl {α : Type} (p : α → α → Bool) (h : ∀ x, p x x = true) : ∀ a : List α, alE p a a = true
  | [] => rfl
  | x :: a => by
    unfold alE
    rw [h x, alE_refl p h a]
    rfl
set_option maxRecDepth 100000 in
theorem eqf122 (a b : List Ins) (ao bo : Option Addr) (ac bc : Nat) (w : World) (ha : InsA w ao ac a) (hb : InsA w bo bc b) : Calls Tryz.prog 122 #[.slice ao a.length ac, .slice bo b.length bc, .func (.func 123) #[] #[]] w fun e w' => e = .returned (.bool (alE inE a b)) ∧ G w w' := by
  have HA : Hid (InsA w ao ac a) := ha
  have HBb : Hid (InsA w bo bc b) := hb
  have k1 := ha.1
  have k2 := ha.2.1
  have g1 := hb.1
  have g2 := hb.2.1
  have H1 : Hid (∀ x y W, x ∈ a → y ∈ b → G w W → Calls Tryz.prog 123 #[inV x, inV y] W fun e w' => e = .returned (.bool (inE x y)) ∧ G W w') := fun x y W hx hy hW => sameIns123 x y W ((HA.out.below hW.below).2.2.1 x hx).1 ((HBb.out.below hW.below).2.2.1 y hy).1
  clear ha hb
  obtain ⟨m, hm⟩ : ∃ m, m = a.length := ⟨_, rfl⟩
  obtain ⟨p, hp⟩ : ∃ p, p = b.length := ⟨_, rfl⟩
  rw [← hm] at k1 ⊢
  rw [← hp] at g1 ⊢
  have HN : Hid (m = a.length ∧ p = b.length) := ⟨hm, hp⟩
  clear hm hp
  have HE0 : Hid (alE inE a b = alE inE (a.drop 0) (b.drop 0)) := rfl
  have HLn : Hid (m ≠ p → alE inE a b = false) := fun h => alE_len inE (by rw [← HN.out.1, ← HN.out.2]; exact h)
  generalize alE inE a b = R at *
  by_cases hmp : m = p
  case neg =>
    have HE : Hid (false = R) := (HLn.out hmp).symm
    have q : ((m : Int) != (p : Int)) = true := by simp; omega
    clear hmp
    go_enter Tryz.func122, Tryz.ntmps122
    go_wp2
    go_ret
    exact ⟨ret_bool HE.out, G.refl _⟩
  subst hmp
  go_enter Tryz.func122, Tryz.ntmps122
  go_wp2
  go_loopw [7, 8, 9, 17] (fun _ _ _ i wx => ∃ j : Nat, j ≤ m ∧ i = .int .i64 j ∧ G w wx ∧ R = alE inE (a.drop j) (b.drop j)) (fun _ _ _ i _ => m - (intOf i).toNat)
  case atStart => exact ⟨0, Nat.zero_le _, rfl, G.refl _, HE0.out⟩
  case round =>
    obtain ⟨j, hj, rfl, hG, hRu⟩ := hrel
    have HG : Hid (G w wr) := hG
    have HRu : Hid (R = alE inE (a.drop j) (b.drop j)) := hRu
    clear hG hRu HE0
    by_cases hlt : j < m
    · obtain ⟨x, hx⟩ : ∃ x, a[j]? = some x := ⟨_, List.getElem?_eq_getElem (by have := HN.out.1; omega)⟩
      obtain ⟨y, hy⟩ : ∃ y, b[j]? = some y := ⟨_, List.getElem?_eq_getElem (by have := HN.out.2; omega)⟩
      have HU : Hid (alE inE (a.drop j) (b.drop j) = (inE x y && alE inE (a.drop (j + 1)) (b.drop (j + 1)))) := alE_at inE hx hy
      have h1 := fun W => H1.out x y W (List.mem_of_getElem? hx) (List.mem_of_getElem? hy)
      obtain ⟨ga, oa, hao, hca⟩ := (HA.out.below HG.out.below).2.2.2 (by have := HN.out.1; omega)
      obtain ⟨gb, ob, hbo, hcb⟩ := (HBb.out.below HG.out.below).2.2.2 (by have := HN.out.2; omega)
      have H12 : Hid (∀ o o', Calls Tryz.prog 123 #[inV x, inV y] ((wr.alloc o).alloc o') fun e w' => e = .returned (.bool (inE x y)) ∧ G ((wr.alloc o).alloc o') w') := fun o o' => h1 _ ((HG.out.alloc o).alloc o')
      clear h1
      have e0 := hca j x hx 0 _ rfl
      have e1 := hca j x hx 1 _ rfl
      have e2 := hca j x hx 2 _ rfl
      have e3 := hca j x hx 3 _ rfl
      have e4 := hca j x hx 4 _ rfl
      have e5 := hca j x hx 5 _ rfl
      have e6 := hca j x hx 6 _ rfl
      have e7 := hca j x hx 7 _ rfl
      have e8 := hca j x hx 8 _ rfl
      rw [Nat.add_zero] at e0
      have d0 := hcb j y hy 0 _ rfl
      have d1 := hcb j y hy 1 _ rfl
      have d2 := hcb j y hy 2 _ rfl
      have d3 := hcb j y hy 3 _ rfl
      have d4 := hcb j y hy 4 _ rfl
      have d5 := hcb j y hy 5 _ rfl
      have d6 := hcb j y hy 6 _ rfl
      have d7 := hcb j y hy 7 _ rfl
      have d8 := hcb j y hy 8 _ rfl
      rw [Nat.add_zero] at d0
      have hb2 : gb < wr.heap.size := World.block_lt_of_cell? _ _ d0
      have f0 := acell hb2 d0
      have f1 := acell hb2 d1
      have f2 := acell hb2 d2
      have f3 := acell hb2 d3
      have f4 := acell hb2 d4
      have f5 := acell hb2 d5
      have f6 := acell hb2 d6
      have f7 := acell hb2 d7
      have f8 := acell hb2 d8
      clear hca hcb hx hy
      subst hao
      subst hbo
      unfold inV at *
      generalize inE x y = X at *
      cases X with
      | false =>
        have HE : Hid (false = R) := by show _ = _; rw [HRu.out, HU.out]; rfl
        go_wp2_with fail
        refine (H12.out _ _).mono ?_
        rintro e w1 ⟨rfl, hg⟩
        go_wp2
        go_ret
        exact ⟨ret_bool HE.out, ((HG.out.alloc _).alloc _).trans hg⟩
      | true =>
        have HE : Hid (R = alE inE (a.drop (j + 1)) (b.drop (j + 1))) := by show _ = _; rw [HRu.out, HU.out]; rfl
        go_wp2_with fail
        refine (H12.out _ _).mono ?_
        rintro e w1 ⟨rfl, hg⟩
        have HG1 : Hid (G w w1) := ((HG.out.alloc _).alloc _).trans hg
        clear hg
        go_wp2
        go_round
        case rel => exact ⟨j + 1, by omega, by go_num, HG1.out, HE.out⟩
        case measure => simp [intOf]; omega
    · obtain rfl : m = j := by omega
      have HE : Hid (true = R) := by show _ = _; rw [HRu.out, List.drop_eq_nil_of_le (by have := HN.out.1; omega), List.drop_eq_nil_of_le (by have := HN.out.2; omega)]; rfl
      go_wp2
      go_ret
      exact ⟨ret_bool HE.out, HG.out⟩
/-- Are two blocks the same? -/
def blE (x y : Blk) : Bool := alE inE x.l y.l
theorem sameBlk84 (x y : Blk) (w : World) (hx : InsA w x.xo x.xc x.l) (hy : InsA w y.xo y.xc y.l) : Calls Tryz.prog 84 #[.agg #[.slice x.xo x.l.length x.xc], .agg #[.slice y.xo y.l.length y.xc]] w fun e w' => e = .returned (.bool (blE x y)) ∧ G w w' := by
  have H : Hid (∀ W, G w W → Calls Tryz.prog 122 #[.slice x.xo x.l.length x.xc, .slice y.xo y.l.length y.xc, .func (.func 123) #[] #[]] W fun e w' => e = .returned (.bool (blE x y)) ∧ G W w') := fun W hW => eqf122 x.l y.l x.xo y.xo x.xc y.xc W (hx.below hW.below) (hy.below hW.below)
  clear hx hy
  generalize blE x y = R at *
  generalize x.l.length = xl at *
  generalize y.l.length = yl at *
  go_enter Tryz.func84, Tryz.ntmps84
  go_wp2_with fail
  refine (H.out _ (((G.refl _).alloc _).alloc _)).mono ?_
  rintro e w1 ⟨rfl, hg⟩
  go_wp2
  go_ret
  exact ⟨rfl, (((G.refl _).alloc _).alloc _).trans hg⟩
set_option maxRecDepth 100000 in
theorem eqf83 (a b : List Blk) (ao bo : Option Addr) (ac bc : Nat) (w : World) (ha : BlkA w ao ac a) (hb : BlkA w bo bc b) : Calls Tryz.prog 83 #[.slice ao a.length ac, .slice bo b.length bc, .func (.func 84) #[] #[]] w fun e w' => e = .returned (.bool (alE blE a b)) ∧ G w w' := by
  have HA : Hid (BlkA w ao ac a) := ha
  have HBb : Hid (BlkA w bo bc b) := hb
  have k1 := ha.1
  have k2 := ha.2.1
  have g1 := hb.1
  have g2 := hb.2.1
  have H1 : Hid (∀ x y W, x ∈ a → y ∈ b → G w W → Calls Tryz.prog 84 #[.agg #[.slice x.xo x.l.length x.xc], .agg #[.slice y.xo y.l.length y.xc]] W fun e w' => e = .returned (.bool (blE x y)) ∧ G W w') := fun x y W hx hy hW => sameBlk84 x y W ((HA.out.below hW.below).2.2.1 x hx) ((HBb.out.below hW.below).2.2.1 y hy)
  clear ha hb
  obtain ⟨m, hm⟩ : ∃ m, m = a.length := ⟨_, rfl⟩
  obtain ⟨p, hp⟩ : ∃ p, p = b.length := ⟨_, rfl⟩
  rw [← hm] at k1 ⊢
  rw [← hp] at g1 ⊢
  have HN : Hid (m = a.length ∧ p = b.length) := ⟨hm, hp⟩
  clear hm hp
  have HE0 : Hid (alE blE a b = alE blE (a.drop 0) (b.drop 0)) := rfl
  have HLn : Hid (m ≠ p → alE blE a b = false) := fun h => alE_len blE (by rw [← HN.out.1, ← HN.out.2]; exact h)
  generalize alE blE a b = R at *
  by_cases hmp : m = p
  case neg =>
    have HE : Hid (false = R) := (HLn.out hmp).symm
    have q : ((m : Int) != (p : Int)) = true := by simp; omega
    clear hmp
    go_enter Tryz.func83, Tryz.ntmps83
    go_wp2
    go_ret
    exact ⟨ret_bool HE.out, G.refl _⟩
  subst hmp
  go_enter Tryz.func83, Tryz.ntmps83
  go_wp2
  go_loopw [7, 8, 9, 17] (fun _ _ _ i wx => ∃ j : Nat, j ≤ m ∧ i = .int .i64 j ∧ G w wx ∧ R = alE blE (a.drop j) (b.drop j)) (fun _ _ _ i _ => m - (intOf i).toNat)
  case atStart => exact ⟨0, Nat.zero_le _, rfl, G.refl _, HE0.out⟩
  case round =>
    obtain ⟨j, hj, rfl, hG, hRu⟩ := hrel
    have HG : Hid (G w wr) := hG
    have HRu : Hid (R = alE blE (a.drop j) (b.drop j)) := hRu
    clear hG hRu HE0
    by_cases hlt : j < m
    · obtain ⟨x, hx⟩ : ∃ x, a[j]? = some x := ⟨_, List.getElem?_eq_getElem (by have := HN.out.1; omega)⟩
      obtain ⟨y, hy⟩ : ∃ y, b[j]? = some y := ⟨_, List.getElem?_eq_getElem (by have := HN.out.2; omega)⟩
      have HU : Hid (alE blE (a.drop j) (b.drop j) = (blE x y && alE blE (a.drop (j + 1)) (b.drop (j + 1)))) := alE_at blE hx hy
      have h1 := fun W => H1.out x y W (List.mem_of_getElem? hx) (List.mem_of_getElem? hy)
      obtain ⟨ga, oa, hao, hca⟩ := (HA.out.below HG.out.below).2.2.2 (by have := HN.out.1; omega)
      obtain ⟨gb, ob, hbo, hcb⟩ := (HBb.out.below HG.out.below).2.2.2 (by have := HN.out.2; omega)
      have H12 : Hid (∀ o o', Calls Tryz.prog 84 #[.agg #[.slice x.xo x.l.length x.xc], .agg #[.slice y.xo y.l.length y.xc]] ((wr.alloc o).alloc o') fun e w' => e = .returned (.bool (blE x y)) ∧ G ((wr.alloc o).alloc o') w') := fun o o' => h1 _ ((HG.out.alloc o).alloc o')
      clear h1
      have e0 := hca j x hx
      have d0 := hcb j y hy
      have hb2 : gb < wr.heap.size := World.block_lt_of_cell? _ _ d0
      have f0 := acell hb2 d0
      clear hca hcb hx hy
      subst hao
      subst hbo
      generalize x.l.length = xl at *
      generalize y.l.length = yl at *
      generalize blE x y = X at *
      cases X with
      | false =>
        have HE : Hid (false = R) := by show _ = _; rw [HRu.out, HU.out]; rfl
        go_wp2_with fail
        refine (H12.out _ _).mono ?_
        rintro e w1 ⟨rfl, hg⟩
        go_wp2
        go_ret
        exact ⟨ret_bool HE.out, ((HG.out.alloc _).alloc _).trans hg⟩
      | true =>
        have HE : Hid (R = alE blE (a.drop (j + 1)) (b.drop (j + 1))) := by show _ = _; rw [HRu.out, HU.out]; rfl
        go_wp2_with fail
        refine (H12.out _ _).mono ?_
        rintro e w1 ⟨rfl, hg⟩
        have HG1 : Hid (G w w1) := ((HG.out.alloc _).alloc _).trans hg
        clear hg
        go_wp2
        go_round
        case rel => exact ⟨j + 1, by omega, by go_num, HG1.out, HE.out⟩
        case measure => simp [intOf]; omega
    · obtain rfl : m = j := by omega
      have HE : Hid (true = R) := by show _ = _; rw [HRu.out, List.drop_eq_nil_of_le (by have := HN.out.1; omega), List.drop_eq_nil_of_le (by have := HN.out.2; omega)]; rfl
      go_wp2
      go_ret
      exact ⟨ret_bool HE.out, HG.out⟩
end
section
open Go.RowKit Go.Shelf
set_option maxHeartbeats 8000000
/-- Are two functions the same? -/
def fnE (x y : Fun) : Bool := decide (x.h.nm = y.h.nm) && ((x.h.pa == y.h.pa) && ((x.h.rg == y.h.rg) && ((x.h.fr == y.h.fr) && alE blE x.bs y.bs)))
set_option maxRecDepth 100000 in
theorem sameFn41 (x y : Fun) (w : World) (hx : x.h.bl = x.bs.length ∧ BlkA w x.h.ba x.h.bc x.bs) (hy : y.h.bl = y.bs.length ∧ BlkA w y.h.ba y.h.bc y.bs) : Calls Tryz.prog 41 #[fnhV x.h, fnhV y.h] w fun e w' => e = .returned (.bool (fnE x y)) ∧ G w w' := by
  have H : Hid (∀ W, G w W → Calls Tryz.prog 83 #[.slice x.h.ba x.h.bl x.h.bc, .slice y.h.ba y.h.bl y.h.bc, .func (.func 84) #[] #[]] W fun e w' => e = .returned (.bool (alE blE x.bs y.bs)) ∧ G W w') := fun W hW => by
    rw [hx.1, hy.1]
    exact eqf83 x.bs y.bs x.h.ba y.h.ba x.h.bc y.h.bc W (hx.2.below hW.below) (hy.2.below hW.below)
  have HV : Hid (fnE x y = (decide (x.h.nm = y.h.nm) && ((x.h.pa == y.h.pa) && ((x.h.rg == y.h.rg) && ((x.h.fr == y.h.fr) && alE blE x.bs y.bs))))) := rfl
  clear hx hy
  generalize fnE x y = R at *
  generalize alE blE x.bs y.bs = XB at *
  unfold fnhV
  obtain ⟨⟨xn, xp, xr, xf, xa, xl, xc⟩, xb⟩ := x
  obtain ⟨⟨yn, yp, yr, yf, ya, yl, yc⟩, yb⟩ := y
  simp only at *
  have HB : Hid (∀ o o', G w ((w.alloc o).alloc o')) := fun o o' => ((G.refl w).alloc o).alloc o'
  by_cases h_n : xn = yn
  case neg =>
    obtain ⟨q1, q2⟩ := nm_ne h_n
    have HE : Hid (false = R) := by show _ = _; rw [HV.out]; simp [*]
    go_enter Tryz.func41, Tryz.ntmps41
    go_wp2
    go_ret
    exact ⟨ret_bool HE.out, HB.out _ _⟩
  subst h_n
  by_cases h_p : xp = yp
  case neg =>
    have q : (xp == yp) = false := by simpa using h_p
    have HE : Hid (false = R) := by show _ = _; rw [HV.out]; simp [*]
    go_enter Tryz.func41, Tryz.ntmps41
    go_wp2
    go_ret
    exact ⟨ret_bool HE.out, HB.out _ _⟩
  subst h_p
  by_cases h_r : xr = yr
  case neg =>
    have q : (xr == yr) = false := by simpa using h_r
    have HE : Hid (false = R) := by show _ = _; rw [HV.out]; simp [*]
    go_enter Tryz.func41, Tryz.ntmps41
    go_wp2
    go_ret
    exact ⟨ret_bool HE.out, HB.out _ _⟩
  subst h_r
  by_cases h_f : xf = yf
  case neg =>
    have q : (xf == yf) = false := by simpa using h_f
    have HE : Hid (false = R) := by show _ = _; rw [HV.out]; simp [*]
    go_enter Tryz.func41, Tryz.ntmps41
    go_wp2
    go_ret
    exact ⟨ret_bool HE.out, HB.out _ _⟩
  subst h_f
  have HE : Hid (XB = R) := by show _ = _; rw [HV.out]; simp
  go_enter Tryz.func41, Tryz.ntmps41
  go_wp2_with fail
  refine (H.out _ (HB.out _ _)).mono ?_
  rintro e w1 ⟨rfl, hg⟩
  go_wp2
  go_ret
  exact ⟨ret_bool HE.out, (HB.out _ _).trans hg⟩
set_option maxRecDepth 100000 in
theorem eqf40 (a b : List Fun) (ao bo : Option Addr) (ac bc : Nat) (w : World) (ha : FunA w ao ac a) (hb : FunA w bo bc b) : Calls Tryz.prog 40 #[.slice ao a.length ac, .slice bo b.length bc, .func (.func 41) #[] #[]] w fun e w' => e = .returned (.bool (alE fnE a b)) ∧ G w w' := by
  have HA : Hid (FunA w ao ac a) := ha
  have HBb : Hid (FunA w bo bc b) := hb
  have k1 := ha.1
  have k2 := ha.2.1
  have g1 := hb.1
  have g2 := hb.2.1
  have H1 : Hid (∀ x y W, x ∈ a → y ∈ b → G w W → Calls Tryz.prog 41 #[fnhV x.h, fnhV y.h] W fun e w' => e = .returned (.bool (fnE x y)) ∧ G W w') := fun x y W hx hy hW => sameFn41 x y W ⟨((HA.out.below hW.below).2.2.1 x hx).1, ((HA.out.below hW.below).2.2.1 x hx).2.2⟩ ⟨((HBb.out.below hW.below).2.2.1 y hy).1, ((HBb.out.below hW.below).2.2.1 y hy).2.2⟩
  clear ha hb
  obtain ⟨m, hm⟩ : ∃ m, m = a.length := ⟨_, rfl⟩
  obtain ⟨p, hp⟩ : ∃ p, p = b.length := ⟨_, rfl⟩
  rw [← hm] at k1 ⊢
  rw [← hp] at g1 ⊢
  have HN : Hid (m = a.length ∧ p = b.length) := ⟨hm, hp⟩
  clear hm hp
  have HE0 : Hid (alE fnE a b = alE fnE (a.drop 0) (b.drop 0)) := rfl
  have HLn : Hid (m ≠ p → alE fnE a b = false) := fun h => alE_len fnE (by rw [← HN.out.1, ← HN.out.2]; exact h)
  generalize alE fnE a b = R at *
  by_cases hmp : m = p
  case neg =>
    have HE : Hid (false = R) := (HLn.out hmp).symm
    have q : ((m : Int) != (p : Int)) = true := by simp; omega
    clear hmp
    go_enter Tryz.func40, Tryz.ntmps40
    go_wp2
    go_ret
    exact ⟨ret_bool HE.out, G.refl _⟩
  subst hmp
  go_enter Tryz.func40, Tryz.ntmps40
  go_wp2
  go_loopw [7, 8, 9, 17] (fun _ _ _ i wx => ∃ j : Nat, j ≤ m ∧ i = .int .i64 j ∧ G w wx ∧ R = alE fnE (a.drop j) (b.drop j)) (fun _ _ _ i _ => m - (intOf i).toNat)
  case atStart => exact ⟨0, Nat.zero_le _, rfl, G.refl _, HE0.out⟩
  case round =>
    obtain ⟨j, hj, rfl, hG, hRu⟩ := hrel
    have HG : Hid (G w wr) := hG
    have HRu : Hid (R = alE fnE (a.drop j) (b.drop j)) := hRu
    clear hG hRu HE0
    by_cases hlt : j < m
    · obtain ⟨x, hx⟩ : ∃ x, a[j]? = some x := ⟨_, List.getElem?_eq_getElem (by have := HN.out.1; omega)⟩
      obtain ⟨y, hy⟩ : ∃ y, b[j]? = some y := ⟨_, List.getElem?_eq_getElem (by have := HN.out.2; omega)⟩
      have HU : Hid (alE fnE (a.drop j) (b.drop j) = (fnE x y && alE fnE (a.drop (j + 1)) (b.drop (j + 1)))) := alE_at fnE hx hy
      have h1 := fun W => H1.out x y W (List.mem_of_getElem? hx) (List.mem_of_getElem? hy)
      obtain ⟨ga, oa, hao, hca⟩ := (HA.out.below HG.out.below).2.2.2 (by have := HN.out.1; omega)
      obtain ⟨gb, ob, hbo, hcb⟩ := (HBb.out.below HG.out.below).2.2.2 (by have := HN.out.2; omega)
      have H12 : Hid (∀ o o', Calls Tryz.prog 41 #[fnhV x.h, fnhV y.h] ((wr.alloc o).alloc o') fun e w' => e = .returned (.bool (fnE x y)) ∧ G ((wr.alloc o).alloc o') w') := fun o o' => h1 _ ((HG.out.alloc o).alloc o')
      clear h1
      have e0 := hca j x hx 0 _ rfl
      have e1 := hca j x hx 1 _ rfl
      have e2 := hca j x hx 2 _ rfl
      have e3 := hca j x hx 3 _ rfl
      have e4 := hca j x hx 4 _ rfl
      rw [Nat.add_zero] at e0
      have d0 := hcb j y hy 0 _ rfl
      have d1 := hcb j y hy 1 _ rfl
      have d2 := hcb j y hy 2 _ rfl
      have d3 := hcb j y hy 3 _ rfl
      have d4 := hcb j y hy 4 _ rfl
      rw [Nat.add_zero] at d0
      have hb2 : gb < wr.heap.size := World.block_lt_of_cell? _ _ d0
      have f0 := acell hb2 d0
      have f1 := acell hb2 d1
      have f2 := acell hb2 d2
      have f3 := acell hb2 d3
      have f4 := acell hb2 d4
      clear hca hcb hx hy
      subst hao
      subst hbo
      unfold fnhV at *
      generalize fnE x y = X at *
      cases X with
      | false =>
        have HE : Hid (false = R) := by show _ = _; rw [HRu.out, HU.out]; rfl
        go_wp2_with fail
        refine (H12.out _ _).mono ?_
        rintro e w1 ⟨rfl, hg⟩
        go_wp2
        go_ret
        exact ⟨ret_bool HE.out, ((HG.out.alloc _).alloc _).trans hg⟩
      | true =>
        have HE : Hid (R = alE fnE (a.drop (j + 1)) (b.drop (j + 1))) := by show _ = _; rw [HRu.out, HU.out]; rfl
        go_wp2_with fail
        refine (H12.out _ _).mono ?_
        rintro e w1 ⟨rfl, hg⟩
        have HG1 : Hid (G w w1) := ((HG.out.alloc _).alloc _).trans hg
        clear hg
        go_wp2
        go_round
        case rel => exact ⟨j + 1, by omega, by go_num, HG1.out, HE.out⟩
        case measure => simp [intOf]; omega
    · obtain rfl : m = j := by omega
      have HE : Hid (true = R) := by show _ = _; rw [HRu.out, List.drop_eq_nil_of_le (by have := HN.out.1; omega), List.drop_eq_nil_of_le (by have := HN.out.2; omega)]; rfl
      go_wp2
      go_ret
      exact ⟨ret_bool HE.out, HG.out⟩
theorem same21 (a b : List Fun) (ao bo : Option Addr) (ac bc : Nat) (w : World) (ha : FunA w ao ac a) (hb : FunA w bo bc b) : Calls Tryz.prog 21 #[.slice ao a.length ac, .slice bo b.length bc] w fun e w' => e = .returned (.bool (alE fnE a b)) ∧ G w w' := by
  have H := eqf40 a b ao bo ac bc w ha hb
  clear ha hb
  generalize alE fnE a b = R at *
  generalize a.length = al at *
  generalize b.length = bl at *
  have H' : Hid (Calls Tryz.prog 40 #[.slice ao al ac, .slice bo bl bc, .func (.func 41) #[] #[]] w fun e w' => e = .returned (.bool R) ∧ G w w') := H
  clear H
  go_enter Tryz.func21, Tryz.ntmps21
  go_wp2_with fail
  refine H'.out.mono ?_
  rintro e w1 ⟨rfl, hg⟩
  go_wp2
  go_ret
  exact ⟨rfl, hg⟩
end
end Go.Proofs.YtdppoblbenbafaaGreatDoor
