/- The document's own look at whether two programs are the same. The document's own look at whether two functions, two programs are the same. The blocks behind an instruction. -/
import Derived.Test.YtdppoblbenbafaaGreatDoorKA
import Derived.Test.YtdppoblbenbafaaGreatDoorJY
import Derived.Test.YtdppoblbenbafaaGreatDoorCA
import Derived.Lib.LazyBuf
import Derived.Laws.IdiomCopy
import Derived.Sort.OwnSortedInts
namespace Go.Proofs.YtdppoblbenbafaaGreatDoor
section
open Go.RowKit Go.Shelf
set_option maxHeartbeats 8000000
theorem alE_beq : ∀ (a b : List Int), alE (fun x y => x == y) a b = (a == b)
  | [], [] => rfl
  | x :: a, y :: b => by
    unfold alE
    rw [alE_beq a b]
    rfl
  | [], _ :: _ => rfl
  | _ :: _, [] => rfl
set_option maxRecDepth 100000 in
theorem rins85 (x y : Ins) (w : World) (hx : ArA w x.ar x.ac x.gs) (hy : ArA w y.ar y.ac y.gs) : Calls Tryz.prog 85 #[inV x, inV y] w fun e w' => e = .returned (.bool (inE x y)) ∧ G w w' := by
  have HAx : Hid (ArA w x.ar x.ac x.gs) := hx
  have HAy : Hid (ArA w y.ar y.ac y.gs) := hy
  have hx1 := hx.1
  have hx2 := hx.2.1
  have hy1 := hy.1
  have hy2 := hy.2.1
  clear hx hy
  obtain ⟨xop, xd, xa, xb, xn, xm, xar, xac, xg, xt, xe⟩ := x
  obtain ⟨yop, yd, ya, yb, yn, ym, yar, yac, yg, yt, ye⟩ := y
  have HV : Hid (inE ⟨xop, xd, xa, xb, xn, xm, xar, xac, xg, xt, xe⟩ ⟨yop, yd, ya, yb, yn, ym, yar, yac, yg, yt, ye⟩ = ((xop == yop) && ((xd == yd) && ((xa == ya) && ((xb == yb) && ((xn == yn) && (decide (xm = ym) && ((xg == yg) && ((xt == yt) && (xe == ye)))))))))) := rfl
  unfold inV
  simp only at *
  generalize inE _ _ = R at *
  rw [← alE_beq] at HV
  have HLn : Hid (xg.length ≠ yg.length → alE (fun x y => x == y) xg yg = false) := fun h => alE_len _ h
  have HE0 : Hid (alE (fun x y => x == y) xg yg = alE (fun x y => x == y) (xg.drop 0) (yg.drop 0)) := rfl
  generalize alE (fun x y => x == y) xg yg = XG at *
  obtain ⟨xl, hxl⟩ : ∃ l, l = xg.length := ⟨_, rfl⟩
  obtain ⟨yl, hyl⟩ : ∃ l, l = yg.length := ⟨_, rfl⟩
  have HL : Hid (xl = xg.length ∧ yl = yg.length) := ⟨hxl, hyl⟩
  rw [← hxl] at hx1 HLn ⊢
  rw [← hyl] at hy1 HLn ⊢
  clear hxl hyl
  have HB : Hid (∀ o o', G w ((w.alloc o).alloc o')) := fun o o' => ((G.refl w).alloc o).alloc o' 
  by_cases h_op : xop = yop
  case neg =>
    have q_op : (xop == yop) = false := by simpa using h_op
    have q2_op : (xop != yop) = true := by simpa using h_op
    have HE : Hid (false = R) := by show _ = _; rw [HV.out]; simp [*]
    go_enter Tryz.func85, Tryz.ntmps85
    go_wp2
    go_ret
    exact ⟨ret_bool HE.out, HB.out _ _⟩
  subst h_op
  by_cases h_d : xd = yd
  case neg =>
    have q_d : (xd == yd) = false := by simpa using h_d
    have q2_d : (xd != yd) = true := by simpa using h_d
    have HE : Hid (false = R) := by show _ = _; rw [HV.out]; simp [*]
    go_enter Tryz.func85, Tryz.ntmps85
    go_wp2
    go_ret
    exact ⟨ret_bool HE.out, HB.out _ _⟩
  subst h_d
  by_cases h_a : xa = ya
  case neg =>
    have q_a : (xa == ya) = false := by simpa using h_a
    have q2_a : (xa != ya) = true := by simpa using h_a
    have HE : Hid (false = R) := by show _ = _; rw [HV.out]; simp [*]
    go_enter Tryz.func85, Tryz.ntmps85
    go_wp2
    go_ret
    exact ⟨ret_bool HE.out, HB.out _ _⟩
  subst h_a
  by_cases h_b : xb = yb
  case neg =>
    have q_b : (xb == yb) = false := by simpa using h_b
    have q2_b : (xb != yb) = true := by simpa using h_b
    have HE : Hid (false = R) := by show _ = _; rw [HV.out]; simp [*]
    go_enter Tryz.func85, Tryz.ntmps85
    go_wp2
    go_ret
    exact ⟨ret_bool HE.out, HB.out _ _⟩
  subst h_b
  by_cases h_n : xn = yn
  case neg =>
    have q_n : (xn == yn) = false := by simpa using h_n
    have q2_n : (xn != yn) = true := by simpa using h_n
    have HE : Hid (false = R) := by show _ = _; rw [HV.out]; simp [*]
    go_enter Tryz.func85, Tryz.ntmps85
    go_wp2
    go_ret
    exact ⟨ret_bool HE.out, HB.out _ _⟩
  subst h_n
  by_cases h_m : xm = ym
  case neg =>
    obtain ⟨q_m, q_m2⟩ := nm_ne h_m
    have HE : Hid (false = R) := by show _ = _; rw [HV.out]; simp [*]
    go_enter Tryz.func85, Tryz.ntmps85
    go_wp2
    go_ret
    exact ⟨ret_bool HE.out, HB.out _ _⟩
  subst h_m
  by_cases h_t : xt = yt
  case neg =>
    have q_t : (xt == yt) = false := by simpa using h_t
    have q2_t : (xt != yt) = true := by simpa using h_t
    have HE : Hid (false = R) := by show _ = _; rw [HV.out]; simp [*]
    go_enter Tryz.func85, Tryz.ntmps85
    go_wp2
    go_ret
    exact ⟨ret_bool HE.out, HB.out _ _⟩
  subst h_t
  by_cases h_e : xe = ye
  case neg =>
    have q_e : (xe == ye) = false := by simpa using h_e
    have q2_e : (xe != ye) = true := by simpa using h_e
    have HE : Hid (false = R) := by show _ = _; rw [HV.out]; simp [*]
    go_enter Tryz.func85, Tryz.ntmps85
    go_wp2
    go_ret
    exact ⟨ret_bool HE.out, HB.out _ _⟩
  subst h_e
  by_cases h_l : xl = yl
  case neg =>
    have q_l : ((xl : Int) != (yl : Int)) = true := by simp; omega
    have HX : Hid (XG = false) := HLn.out h_l
    have HE : Hid (false = R) := by show _ = _; rw [HV.out, HX.out]; simp
    clear h_l
    go_enter Tryz.func85, Tryz.ntmps85
    go_wp2
    go_ret
    exact ⟨ret_bool HE.out, HB.out _ _⟩
  subst h_l
  have HE1 : Hid (R = alE (fun x y => x == y) (xg.drop 0) (yg.drop 0)) := by show _ = _; rw [HV.out, ← HE0.out]; simp
  clear HV HE0 HLn
  have HW : Hid (∃ W, W = ((w.alloc (.cells #[.int .i64 xop, .int .i64 xd, .int .i64 xa, .int .i64 xb, .int .i64 xn, .string xm, .slice xar xl xac, .int .i64 xt, .int .i64 xe] 54)).alloc (.cells #[.int .i64 xop, .int .i64 xd, .int .i64 xa, .int .i64 xb, .int .i64 xn, .string xm, .slice yar xl yac, .int .i64 xt, .int .i64 xe] 54)) ∧ G w W ∧ w.heap.size + 1 < W.heap.size ∧ W.cell? ⟨w.heap.size, 6, none⟩ = some (.slice xar xl xac) ∧ W.cell? ⟨w.heap.size + 1, 6, none⟩ = some (.slice yar xl yac)) := ⟨_, rfl, HB.out _ _, by simp, by go_simp, by go_simp⟩
  go_enter Tryz.func85, Tryz.ntmps85
  go_wp2
  obtain ⟨W, hWe, hG, hWl, c6, d6⟩ := HW.out
  rw [← hWe]
  have HG : Hid (G w W) := hG
  clear hWe hG HW
  go_loopw [5] (fun v wx => ∃ j : Nat, j ≤ xl ∧ v = .int .i64 j ∧ G W wx ∧ R = alE (fun x y => x == y) (xg.drop j) (yg.drop j)) (fun v _ => xl - (intOf v).toNat)
  case atStart => exact ⟨0, Nat.zero_le _, rfl, G.refl _, HE1.out⟩
  case round =>
    obtain ⟨j, hj, rfl, hGx, hRu⟩ := hrel
    have HX : Hid (G W wr) := hGx
    have HRu : Hid (R = alE (fun x y => x == y) (xg.drop j) (yg.drop j)) := hRu
    obtain ⟨kc, -⟩ := bcell hGx.below
    replace c6 := (kc _ _ (by omega)).trans c6
    replace d6 := (kc _ _ (by omega)).trans d6
    have hwl : w.heap.size + 1 < wr.heap.size := Nat.lt_of_lt_of_le hWl hGx.below.size
    clear kc hGx hRu HE1 hWl
    by_cases hlt : j < xl
    · obtain ⟨u, hu⟩ : ∃ u, xg[j]? = some u := ⟨_, List.getElem?_eq_getElem (by have := HL.out.1; omega)⟩
      obtain ⟨v, hv⟩ : ∃ v, yg[j]? = some v := ⟨_, List.getElem?_eq_getElem (by have := HL.out.2; omega)⟩
      have HU : Hid (alE (fun x y => x == y) (xg.drop j) (yg.drop j) = ((u == v) && alE (fun x y => x == y) (xg.drop (j + 1)) (yg.drop (j + 1)))) := alE_at (fun x y => x == y) hu hv
      obtain ⟨ga, oa, ha, hca⟩ := (HAx.out.below (HG.out.trans HX.out).below).2.2 (by have := HL.out.1; omega)
      obtain ⟨gb, ob, hb, hcb⟩ := (HAy.out.below (HG.out.trans HX.out).below).2.2 (by have := HL.out.2; omega)
      have e0 := hca j u hu
      have f0 := hcb j v hv
      clear hca hcb hu hv
      subst ha
      subst hb
      by_cases he : u = v
      · have q : (u != v) = false := by simpa using he
        have HE : Hid (R = alE (fun x y => x == y) (xg.drop (j + 1)) (yg.drop (j + 1))) := by show _ = _; rw [HRu.out, HU.out, show (u == v) = true by simpa using he]; rfl
        clear he
        go_wp2_with fail
        go_quiet (fail)
        go_wp2
        go_round
        case rel => exact ⟨j + 1, by omega, by go_num, HX.out.drewN nq, HE.out⟩
        case measure => simp [intOf]; omega
      · have q : (u != v) = true := by simpa using he
        have HE : Hid (false = R) := by show _ = _; rw [HRu.out, HU.out, show (u == v) = false by simpa using he]; rfl
        clear he
        go_wp2_with fail
        go_quiet (fail)
        go_wp2
        go_ret
        exact ⟨ret_bool HE.out, (HG.out.trans HX.out).drewN nq⟩
    · obtain rfl : xl = j := by omega
      have HE : Hid (true = R) := by show _ = _; rw [HRu.out, List.drop_eq_nil_of_le (by have := HL.out.1; omega), List.drop_eq_nil_of_le (by have := HL.out.2; omega)]; rfl
      go_wp2
      go_ret
      exact ⟨ret_bool HE.out, HG.out.trans HX.out⟩
end
section
open Go.RowKit Go.Shelf
set_option maxHeartbeats 8000000
theorem lex42 : Region.lexB .any (opsOf (Tryz.f42.body.getD .skip) 12).toArray = true := by kernel_rfl
theorem lex22 : Region.lexB .any (opsOf (Tryz.f22.body.getD .skip) 6).toArray = true := by kernel_rfl
set_option maxRecDepth 100000 in
theorem rsame42 (x y : Fun) (w : World) (hx : x.h.bl = x.bs.length ∧ BlkA w x.h.ba x.h.bc x.bs) (hy : y.h.bl = y.bs.length ∧ BlkA w y.h.ba y.h.bc y.bs) : Calls Tryz.prog 42 #[fnhV x.h, fnhV y.h] w fun e w' => e = .returned (.bool (fnE x y)) ∧ G w w' := by
  have HV : Hid (fnE x y = (decide (x.h.nm = y.h.nm) && ((x.h.pa == y.h.pa) && ((x.h.rg == y.h.rg) && ((x.h.fr == y.h.fr) && alE blE x.bs y.bs))))) := rfl
  have HAx : Hid (BlkA w x.h.ba x.h.bc x.bs) := hx.2
  have HAy : Hid (BlkA w y.h.ba y.h.bc y.bs) := hy.2
  have HL : Hid (x.h.bl = x.bs.length ∧ y.h.bl = y.bs.length) := ⟨hx.1, hy.1⟩
  have hx1 : x.h.bl ≤ x.h.bc := by rw [hx.1]; exact hx.2.1
  have hx2 := hx.2.2.1
  have hy1 : y.h.bl ≤ y.h.bc := by rw [hy.1]; exact hy.2.1
  have hy2 := hy.2.2.1
  have HLn : Hid (x.h.bl ≠ y.h.bl → alE blE x.bs y.bs = false) := fun h => alE_len _ (by rw [← hx.1, ← hy.1]; exact h)
  have HE0 : Hid (alE blE x.bs y.bs = alE blE (x.bs.drop 0) (y.bs.drop 0)) := rfl
  clear hx hy
  generalize fnE x y = R at *
  generalize alE blE x.bs y.bs = XB at *
  unfold fnhV
  obtain ⟨⟨xn, xp, xr, xf, xa, xl, xc⟩, xb⟩ := x
  obtain ⟨⟨yn, yp, yr, yf, ya, yl, yc⟩, yb⟩ := y
  simp only at *
  have HB : Hid (∀ o o', G w ((w.alloc o).alloc o')) := fun o o' => ((G.refl w).alloc o).alloc o'
  by_cases h_n : xn = yn
  case neg =>
    obtain ⟨q1, q2⟩ := nm_ne h_n
    have HE : Hid (false = R) := by show _ = _; rw [HV.out]; simp [*]
    go_enter Tryz.func42, Tryz.ntmps42
    go_wp2
    go_ret
    exact ⟨ret_bool HE.out, HB.out _ _⟩
  subst h_n
  by_cases h_p : xp = yp
  case neg =>
    have q : (xp == yp) = false := by simpa using h_p
    have q2 : (xp != yp) = true := by simpa using h_p
    have HE : Hid (false = R) := by show _ = _; rw [HV.out]; simp [*]
    go_enter Tryz.func42, Tryz.ntmps42
    go_wp2
    go_ret
    exact ⟨ret_bool HE.out, HB.out _ _⟩
  subst h_p
  by_cases h_r : xr = yr
  case neg =>
    have q : (xr == yr) = false := by simpa using h_r
    have q2 : (xr != yr) = true := by simpa using h_r
    have HE : Hid (false = R) := by show _ = _; rw [HV.out]; simp [*]
    go_enter Tryz.func42, Tryz.ntmps42
    go_wp2
    go_ret
    exact ⟨ret_bool HE.out, HB.out _ _⟩
  subst h_r
  by_cases h_f : xf = yf
  case neg =>
    have q : (xf == yf) = false := by simpa using h_f
    have q2 : (xf != yf) = true := by simpa using h_f
    have HE : Hid (false = R) := by show _ = _; rw [HV.out]; simp [*]
    go_enter Tryz.func42, Tryz.ntmps42
    go_wp2
    go_ret
    exact ⟨ret_bool HE.out, HB.out _ _⟩
  subst h_f
  by_cases h_l : xl = yl
  case neg =>
    have q_l : ((xl : Int) != (yl : Int)) = true := by simp; omega
    have HX : Hid (XB = false) := HLn.out h_l
    have HE : Hid (false = R) := by show _ = _; rw [HV.out, HX.out]; simp
    clear h_l
    go_enter Tryz.func42, Tryz.ntmps42
    go_wp2
    go_ret
    exact ⟨ret_bool HE.out, HB.out _ _⟩
  subst h_l
  have HE1 : Hid (R = alE blE (xb.drop 0) (yb.drop 0)) := by show _ = _; rw [HV.out, ← HE0.out]; simp
  clear HV HE0 HLn
  have HW : Hid (∃ W, W = ((w.alloc (.cells #[.string xn, .int .i64 xp, .int .i64 xr, .int .i64 xf, .slice xa xl xc] 27)).alloc (.cells #[.string xn, .int .i64 xp, .int .i64 xr, .int .i64 xf, .slice ya xl yc] 27)) ∧ G w W ∧ w.heap.size + 1 < W.heap.size ∧ W.cell? ⟨w.heap.size, 4, none⟩ = some (.slice xa xl xc) ∧ W.cell? ⟨w.heap.size + 1, 4, none⟩ = some (.slice ya xl yc)) := ⟨_, rfl, HB.out _ _, by simp, by go_simp, by go_simp⟩
  go_enter Tryz.func42, Tryz.ntmps42
  go_wp2
  obtain ⟨W, hWe, hG, hWl, c4, d4⟩ := HW.out
  rw [← hWe]
  have HG : Hid (G w W) := hG
  have HC4 : Hid (W.cell? ⟨w.heap.size, 4, none⟩ = some (.slice xa xl xc) ∧ W.cell? ⟨w.heap.size + 1, 4, none⟩ = some (.slice ya xl yc) ∧ w.heap.size + 1 < W.heap.size) := ⟨c4, d4, hWl⟩
  clear hWe hG HW c4 d4 hWl
  go_loopw [5, 6, 7, 8] (fun v _ _ _ wx => ∃ j : Nat, j ≤ xl ∧ v = .int .i64 j ∧ G W wx ∧ R = alE blE (xb.drop j) (yb.drop j)) (fun v _ _ _ _ => xl - (intOf v).toNat)
  case atStart => exact ⟨0, Nat.zero_le _, rfl, G.refl _, HE1.out⟩
  case round =>
    obtain ⟨j, hj, rfl, hGx, hRu⟩ := hrel
    generalize wr = U at *
    have HX : Hid (G W U) := hGx
    have HRu : Hid (R = alE blE (xb.drop j) (yb.drop j)) := hRu
    obtain ⟨kc, -⟩ := bcell hGx.below
    have c4 := (kc _ _ (by have := HC4.out.2.2; omega)).trans HC4.out.1
    have d4 := (kc _ _ HC4.out.2.2).trans HC4.out.2.1
    clear kc hGx hRu HE1
    by_cases hlt : j < xl
    · obtain ⟨u, hu⟩ : ∃ u, xb[j]? = some u := ⟨_, List.getElem?_eq_getElem (by have := HL.out.1; omega)⟩
      obtain ⟨v, hv⟩ : ∃ v, yb[j]? = some v := ⟨_, List.getElem?_eq_getElem (by have := HL.out.2; omega)⟩
      have HU : Hid (alE blE (xb.drop j) (yb.drop j) = (alE inE u.l v.l && alE blE (xb.drop (j + 1)) (yb.drop (j + 1)))) := alE_at blE hu hv
      obtain ⟨ga, oa, ha, hca⟩ := (HAx.out.below (HG.out.trans HX.out).below).2.2.2 (by have := HL.out.1; omega)
      obtain ⟨gb, ob, hb, hcb⟩ := (HAy.out.below (HG.out.trans HX.out).below).2.2.2 (by have := HL.out.2; omega)
      have e0 := hca j u hu
      have f0 := hcb j v hv
      have HIu : Hid (InsA w u.xo u.xc u.l) := HAx.out.2.2.1 u (List.mem_of_getElem? hu)
      have HIv : Hid (InsA w v.xo v.xc v.l) := HAy.out.2.2.1 v (List.mem_of_getElem? hv)
      have hu1 := HIu.out.1
      have hu2 := HIu.out.2.1
      have hv1 := HIv.out.1
      have hv2 := HIv.out.2.1
      clear hca hcb hu hv
      subst ha
      subst hb
      have HLi : Hid (u.l.length ≠ v.l.length → alE inE u.l v.l = false) := fun h => alE_len _ h
      have HEi : Hid (alE inE u.l v.l = alE inE (u.l.drop 0) (v.l.drop 0)) := rfl
      generalize alE inE u.l v.l = XI at *
      obtain ⟨m, hm⟩ : ∃ m, m = u.l.length := ⟨_, rfl⟩
      obtain ⟨p, hp⟩ : ∃ p, p = v.l.length := ⟨_, rfl⟩
      have HMP : Hid (m = u.l.length ∧ p = v.l.length) := ⟨hm, hp⟩
      rw [← hm] at hu1 e0 HLi
      rw [← hp] at hv1 f0 HLi
      clear hm hp
      generalize u.xo = uo at *
      generalize u.xc = uc at *
      generalize u.l = ul at *
      generalize v.xo = vo at *
      generalize v.xc = vc at *
      generalize v.l = vl at *
      by_cases hmp : m = p
      case neg =>
        have q_l : ((m : Int) != (p : Int)) = true := by simp; omega
        have HXi : Hid (XI = false) := HLi.out hmp
        have HE : Hid (false = R) := by show _ = _; rw [HRu.out, HU.out, HXi.out]; rfl
        clear hmp
        go_wp2_with fail
        go_quiet (fail)
        go_wp2
        go_ret
        exact ⟨ret_bool HE.out, (HG.out.trans HX.out).drewN nq⟩
      subst hmp
      have HE2 : Hid (R = (alE inE (ul.drop 0) (vl.drop 0) && alE blE (xb.drop (j + 1)) (yb.drop (j + 1)))) := by show _ = _; rw [HRu.out, HU.out, HEi.out]
      go_wp2_with fail
      go_quiet (fail)
      go_wp2_with fail
      obtain ⟨V, hVe, HGV⟩ : ∃ V, V = U.drewN nq ∧ Hid (G W V) := ⟨_, rfl, HX.out.drewN nq⟩
      rw [← hVe]
      clear hVe HU HEi HLi c4 d4 e0 f0
      go_loopw [8] (fun v wx => ∃ k : Nat, k ≤ m ∧ v = .int .i64 k ∧ G V wx ∧ R = (alE inE (ul.drop k) (vl.drop k) && alE blE (xb.drop (j + 1)) (yb.drop (j + 1)))) (fun v _ => m - (intOf v).toNat)
      case atStart => exact ⟨0, Nat.zero_le _, rfl, G.refl _, HE2.out⟩
      case round =>
        obtain ⟨k, hk, rfl, hGy, hRv⟩ := hrel
        have HY : Hid (G w wr) := (HG.out.trans HGV.out).trans hGy
        have HYW : Hid (G W wr) := HGV.out.trans hGy
        have HYV : Hid (G V wr) := hGy
        have HRv : Hid (R = (alE inE (ul.drop k) (vl.drop k) && alE blE (xb.drop (j + 1)) (yb.drop (j + 1)))) := hRv
        clear hGy hRv HE2
        by_cases hkt : k < m
        · obtain ⟨a, ha⟩ : ∃ a, ul[k]? = some a := ⟨_, List.getElem?_eq_getElem (by have := HMP.out.1; omega)⟩
          obtain ⟨b, hb⟩ : ∃ b, vl[k]? = some b := ⟨_, List.getElem?_eq_getElem (by have := HMP.out.2; omega)⟩
          have HU2 : Hid (alE inE (ul.drop k) (vl.drop k) = (inE a b && alE inE (ul.drop (k + 1)) (vl.drop (k + 1)))) := alE_at inE ha hb
          obtain ⟨g1, o1, hu1', hc1⟩ := (HIu.out.below HY.out.below).2.2.2 (by have := HMP.out.1; omega)
          obtain ⟨g2, o2, hv1', hc2⟩ := (HIv.out.below HY.out.below).2.2.2 (by have := HMP.out.2; omega)
          have kq := fun nn os => G.to (w := wr) (n := nn) (os := os) (rins85 a b _ (((HIu.out.below HY.out.below).2.2.1 a (List.mem_of_getElem? ha)).1.below (G.below ⟨nn, os, rfl⟩)) (((HIv.out.below HY.out.below).2.2.1 b (List.mem_of_getElem? hb)).1.below (G.below ⟨nn, os, rfl⟩)))
          have e0 := hc1 k a ha 0 _ rfl
          have e1 := hc1 k a ha 1 _ rfl
          have e2 := hc1 k a ha 2 _ rfl
          have e3 := hc1 k a ha 3 _ rfl
          have e4 := hc1 k a ha 4 _ rfl
          have e5 := hc1 k a ha 5 _ rfl
          have e6 := hc1 k a ha 6 _ rfl
          have e7 := hc1 k a ha 7 _ rfl
          have e8 := hc1 k a ha 8 _ rfl
          rw [Nat.add_zero] at e0
          have f0 := hc2 k b hb 0 _ rfl
          have f1 := hc2 k b hb 1 _ rfl
          have f2 := hc2 k b hb 2 _ rfl
          have f3 := hc2 k b hb 3 _ rfl
          have f4 := hc2 k b hb 4 _ rfl
          have f5 := hc2 k b hb 5 _ rfl
          have f6 := hc2 k b hb 6 _ rfl
          have f7 := hc2 k b hb 7 _ rfl
          have f8 := hc2 k b hb 8 _ rfl
          rw [Nat.add_zero] at f0
          have l1 : g1 < wr.heap.size := World.block_lt_of_cell? _ _ e0
          have l2 : g2 < wr.heap.size := World.block_lt_of_cell? _ _ f0
          clear hc1 hc2 ha hb
          subst hu1'
          subst hv1'
          unfold inV at kq
          generalize a.gs.length = al at *
          generalize b.gs.length = bl at *
          have p0 := gcell l1 e0
          have p1 := gcell l1 e1
          have p2 := gcell l1 e2
          have p3 := gcell l1 e3
          have p4 := gcell l1 e4
          have p5 := gcell l1 e5
          have p6 := gcell l1 e6
          have p7 := gcell l1 e7
          have p8 := gcell l1 e8
          have q0 := gcell l2 f0
          have q1 := gcell l2 f1
          have q2 := gcell l2 f2
          have q3 := gcell l2 f3
          have q4 := gcell l2 f4
          have q5 := gcell l2 f5
          have q6 := gcell l2 f6
          have q7 := gcell l2 f7
          have q8 := gcell l2 f8
          clear e0 e1 e2 e3 e4 e5 e6 e7 e8 f0 f1 f2 f3 f4 f5 f6 f7 f8
          generalize inE a b = X at *
          cases X with
          | false =>
            have HE : Hid (false = R) := by show _ = _; rw [HRv.out, HU2.out]; rfl
            go_wp2_with fail
            refine wp_region_quiet_grown (by kernel_rfl) (by exact lex42) ?_
            repeat (go_big_quiet_step ((first | (go_at_call 85; with_reducible exact kq _ _))))
            refine wpQuiet_nil ?_
            intro wz hwz
            obtain ⟨⟨nq, osq⟩, hwz2⟩ := hwz
            subst hwz2
            go_wp2
            go_ret
            exact ⟨ret_bool HE.out, HY.out.trans ⟨nq, osq, rfl⟩⟩
          | true =>
            have HE : Hid (R = (alE inE (ul.drop (k + 1)) (vl.drop (k + 1)) && alE blE (xb.drop (j + 1)) (yb.drop (j + 1)))) := by show _ = _; rw [HRv.out, HU2.out]; rfl
            go_wp2_with fail
            refine wp_region_quiet_grown (by kernel_rfl) (by exact lex42) ?_
            repeat (go_big_quiet_step ((first | (go_at_call 85; with_reducible exact kq _ _))))
            refine wpQuiet_nil ?_
            intro wz hwz
            obtain ⟨⟨nq, osq⟩, hwz2⟩ := hwz
            subst hwz2
            go_wp2
            go_round
            case rel => exact ⟨k + 1, by omega, by go_num, HYV.out.trans ⟨nq, osq, rfl⟩, HE.out⟩
            case measure => simp [intOf]; omega
        · obtain rfl : k = m := by omega
          have HE : Hid (R = alE blE (xb.drop (j + 1)) (yb.drop (j + 1))) := by show _ = _; rw [HRv.out, List.drop_eq_nil_of_le (by have := HMP.out.1; omega), List.drop_eq_nil_of_le (by have := HMP.out.2; omega)]; rfl
          go_wp2
          go_round
          case rel => exact ⟨j + 1, by omega, by go_num, HYW.out, HE.out⟩
          case measure => simp [intOf]; omega
    · obtain rfl : j = xl := by omega
      have HE : Hid (true = R) := by show _ = _; rw [HRu.out, List.drop_eq_nil_of_le (by have := HL.out.1; omega), List.drop_eq_nil_of_le (by have := HL.out.2; omega)]; rfl
      go_wp2
      go_ret
      exact ⟨ret_bool HE.out, HG.out.trans HX.out⟩
set_option maxRecDepth 100000 in
theorem rsame22 (a b : List Fun) (ao bo : Option Addr) (ac bc : Nat) (w : World) (ha : FunA w ao ac a) (hb : FunA w bo bc b) : Calls Tryz.prog 22 #[.slice ao a.length ac, .slice bo b.length bc] w fun e w' => e = .returned (.bool (alE fnE a b)) ∧ G w w' := by
  have HA : Hid (FunA w ao ac a) := ha
  have HBb : Hid (FunA w bo bc b) := hb
  have k1 := ha.1
  have k2 := ha.2.1
  have g1 := hb.1
  have g2 := hb.2.1
  clear ha hb
  obtain ⟨m, hm⟩ : ∃ m, m = a.length := ⟨_, rfl⟩
  obtain ⟨p, hp⟩ : ∃ p, p = b.length := ⟨_, rfl⟩
  rw [← hm] at k1 ⊢
  rw [← hp] at g1 ⊢
  have HN : Hid (m = a.length ∧ p = b.length) := ⟨hm, hp⟩
  clear hm hp
  have HE0 : Hid (alE fnE a b = alE fnE (a.drop 0) (b.drop 0)) := rfl
  have HLn : Hid (m ≠ p → alE fnE a b = false) := fun h => alE_len fnE (by rw [← HN.out.1, ← HN.out.2]; exact h)
  generalize alE fnE a b = R at *
  by_cases hmp : m = p
  case neg =>
    have HE : Hid (false = R) := (HLn.out hmp).symm
    have q : ((m : Int) != (p : Int)) = true := by simp; omega
    clear hmp
    go_enter Tryz.func22, Tryz.ntmps22
    go_wp2
    go_ret
    exact ⟨ret_bool HE.out, G.refl _⟩
  subst hmp
  go_enter Tryz.func22, Tryz.ntmps22
  go_wp2
  go_loopw [5] (fun i wx => ∃ j : Nat, j ≤ m ∧ i = .int .i64 j ∧ G w wx ∧ R = alE fnE (a.drop j) (b.drop j)) (fun i _ => m - (intOf i).toNat)
  case atStart => exact ⟨0, Nat.zero_le _, rfl, G.refl _, HE0.out⟩
  case round =>
    obtain ⟨j, hj, rfl, hG, hRu⟩ := hrel
    have HG : Hid (G w wr) := hG
    have HRu : Hid (R = alE fnE (a.drop j) (b.drop j)) := hRu
    clear hG hRu HE0
    by_cases hlt : j < m
    · obtain ⟨x, hx⟩ : ∃ x, a[j]? = some x := ⟨_, List.getElem?_eq_getElem (by have := HN.out.1; omega)⟩
      obtain ⟨y, hy⟩ : ∃ y, b[j]? = some y := ⟨_, List.getElem?_eq_getElem (by have := HN.out.2; omega)⟩
      have HU : Hid (alE fnE (a.drop j) (b.drop j) = (fnE x y && alE fnE (a.drop (j + 1)) (b.drop (j + 1)))) := alE_at fnE hx hy
      obtain ⟨ga, oa, hao, hca⟩ := (HA.out.below HG.out.below).2.2.2 (by have := HN.out.1; omega)
      obtain ⟨gb, ob, hbo, hcb⟩ := (HBb.out.below HG.out.below).2.2.2 (by have := HN.out.2; omega)
      have kq := fun nn os => G.to (w := wr) (n := nn) (os := os) (rsame42 x y _ (by
        have hW : G w (Go.Sort.grow (wr.drewN nn) os) := HG.out.trans ⟨nn, os, rfl⟩
        have t := (HA.out.below hW.below).2.2.1 x (List.mem_of_getElem? hx)
        exact ⟨t.1, t.2.2⟩) (by
        have hW : G w (Go.Sort.grow (wr.drewN nn) os) := HG.out.trans ⟨nn, os, rfl⟩
        have t := (HBb.out.below hW.below).2.2.1 y (List.mem_of_getElem? hy)
        exact ⟨t.1, t.2.2⟩))
      have e0 := hca j x hx 0 _ rfl
      have e1 := hca j x hx 1 _ rfl
      have e2 := hca j x hx 2 _ rfl
      have e3 := hca j x hx 3 _ rfl
      have e4 := hca j x hx 4 _ rfl
      rw [Nat.add_zero] at e0
      have f0 := hcb j y hy 0 _ rfl
      have f1 := hcb j y hy 1 _ rfl
      have f2 := hcb j y hy 2 _ rfl
      have f3 := hcb j y hy 3 _ rfl
      have f4 := hcb j y hy 4 _ rfl
      rw [Nat.add_zero] at f0
      have l1 : ga < wr.heap.size := World.block_lt_of_cell? _ _ e0
      have l2 : gb < wr.heap.size := World.block_lt_of_cell? _ _ f0
      clear hca hcb hx hy
      subst hao
      subst hbo
      unfold fnhV at kq
      have p0 := gcell l1 e0
      have p1 := gcell l1 e1
      have p2 := gcell l1 e2
      have p3 := gcell l1 e3
      have p4 := gcell l1 e4
      have q0 := gcell l2 f0
      have q1 := gcell l2 f1
      have q2 := gcell l2 f2
      have q3 := gcell l2 f3
      have q4 := gcell l2 f4
      clear e0 e1 e2 e3 e4 f0 f1 f2 f3 f4
      generalize fnE x y = X at *
      cases X with
      | false =>
        have HE : Hid (false = R) := by show _ = _; rw [HRu.out, HU.out]; rfl
        go_wp2_with fail
        refine wp_region_quiet_grown (by kernel_rfl) (by exact lex22) ?_
        repeat (go_big_quiet_step ((first | (go_at_call 42; with_reducible exact kq _ _))))
        refine wpQuiet_nil ?_
        intro wz hwz
        obtain ⟨⟨nq, osq⟩, hwz2⟩ := hwz
        subst hwz2
        go_wp2
        go_ret
        exact ⟨ret_bool HE.out, HG.out.trans ⟨nq, osq, rfl⟩⟩
      | true =>
        have HE : Hid (R = alE fnE (a.drop (j + 1)) (b.drop (j + 1))) := by show _ = _; rw [HRu.out, HU.out]; rfl
        go_wp2_with fail
        refine wp_region_quiet_grown (by kernel_rfl) (by exact lex22) ?_
        repeat (go_big_quiet_step ((first | (go_at_call 42; with_reducible exact kq _ _))))
        refine wpQuiet_nil ?_
        intro wz hwz
        obtain ⟨⟨nq, osq⟩, hwz2⟩ := hwz
        subst hwz2
        go_wp2
        go_round
        case rel => exact ⟨j + 1, by omega, by go_num, HG.out.trans ⟨nq, osq, rfl⟩, HE.out⟩
        case measure => simp [intOf]; omega
    · obtain rfl : m = j := by omega
      have HE : Hid (true = R) := by show _ = _; rw [HRu.out, List.drop_eq_nil_of_le (by have := HN.out.1; omega), List.drop_eq_nil_of_le (by have := HN.out.2; omega)]; rfl
      go_wp2
      go_ret
      exact ⟨ret_bool HE.out, HG.out⟩
end
section
open Go.RowKit Go.Shelf Go.Sort
set_option maxHeartbeats 8000000
set_option maxRecDepth 100000 in
theorem ints18 (xs ys : List Int) (ao bo : Option Addr) (ac bc : Nat) (w : World) (hx : ArA w ao ac xs) (hy : ArA w bo bc ys) : Calls Tryz.prog 18 #[.slice ao xs.length ac, .slice bo ys.length bc] w fun e w' => e = .returned (.bool (xs == ys)) ∧ G w w' := by
  have HA : Hid (ArA w ao ac xs) := hx
  have HBb : Hid (ArA w bo bc ys) := hy
  have k1 := hx.1
  have k2 := hx.2.1
  have g1 := hy.1
  have g2 := hy.2.1
  clear hx hy
  rw [← alE_beq]
  obtain ⟨m, hm⟩ : ∃ m, m = xs.length := ⟨_, rfl⟩
  obtain ⟨p, hp⟩ : ∃ p, p = ys.length := ⟨_, rfl⟩
  rw [← hm] at k1 ⊢
  rw [← hp] at g1 ⊢
  have HN : Hid (m = xs.length ∧ p = ys.length) := ⟨hm, hp⟩
  clear hm hp
  have HE0 : Hid (alE (fun x y => x == y) xs ys = alE (fun x y => x == y) (xs.drop 0) (ys.drop 0)) := rfl
  have HLn : Hid (m ≠ p → alE (fun x y => x == y) xs ys = false) := fun h => alE_len _ (by rw [← HN.out.1, ← HN.out.2]; exact h)
  generalize alE (fun x y => x == y) xs ys = R at *
  by_cases hmp : m = p
  case neg =>
    have HE : Hid (false = R) := (HLn.out hmp).symm
    have q : ((m : Int) != (p : Int)) = true := by simp; omega
    clear hmp
    go_enter Tryz.func18, Tryz.ntmps18
    go_wp2
    go_ret
    exact ⟨ret_bool HE.out, G.refl _⟩
  subst hmp
  go_enter Tryz.func18, Tryz.ntmps18
  go_wp2
  go_loopw [5, 13] (fun _ i wx => ∃ j : Nat, j ≤ m ∧ i = .int .i64 j ∧ G w wx ∧ R = alE (fun x y => x == y) (xs.drop j) (ys.drop j)) (fun _ i _ => m - (intOf i).toNat)
  case atStart => exact ⟨0, Nat.zero_le _, rfl, G.refl _, HE0.out⟩
  case round =>
    obtain ⟨j, hj, rfl, hG, hRu⟩ := hrel
    have HG : Hid (G w wr) := hG
    have HRu : Hid (R = alE (fun x y => x == y) (xs.drop j) (ys.drop j)) := hRu
    clear hG hRu HE0
    by_cases hlt : j < m
    · obtain ⟨u, hu⟩ : ∃ u, xs[j]? = some u := ⟨_, List.getElem?_eq_getElem (by have := HN.out.1; omega)⟩
      obtain ⟨v, hv⟩ : ∃ v, ys[j]? = some v := ⟨_, List.getElem?_eq_getElem (by have := HN.out.2; omega)⟩
      have HU : Hid (alE (fun x y => x == y) (xs.drop j) (ys.drop j) = ((u == v) && alE (fun x y => x == y) (xs.drop (j + 1)) (ys.drop (j + 1)))) := alE_at (fun x y => x == y) hu hv
      obtain ⟨ga, oa, ha, hca⟩ := (HA.out.below HG.out.below).2.2 (by have := HN.out.1; omega)
      obtain ⟨gb, ob, hb, hcb⟩ := (HBb.out.below HG.out.below).2.2 (by have := HN.out.2; omega)
      have e0 := hca j u hu
      have f0 := hcb j v hv
      clear hca hcb hu hv
      subst ha
      subst hb
      by_cases he : u = v
      · have q : (u != v) = false := by simpa using he
        have HE : Hid (R = alE (fun x y => x == y) (xs.drop (j + 1)) (ys.drop (j + 1))) := by show _ = _; rw [HRu.out, HU.out, show (u == v) = true by simpa using he]; rfl
        clear he
        go_wp2_with fail
        go_quiet (fail)
        go_wp2
        go_round
        case rel => exact ⟨j + 1, by omega, by go_num, HG.out.drewN nq, HE.out⟩
        case measure => simp [intOf]; omega
      · have q : (u != v) = true := by simpa using he
        have HE : Hid (false = R) := by show _ = _; rw [HRu.out, HU.out, show (u == v) = false by simpa using he]; rfl
        clear he
        go_wp2_with fail
        go_quiet (fail)
        go_wp2
        go_ret
        exact ⟨ret_bool HE.out, HG.out.drewN nq⟩
    · obtain rfl : m = j := by omega
      have HE : Hid (true = R) := by show _ = _; rw [HRu.out, List.drop_eq_nil_of_le (by have := HN.out.1; omega), List.drop_eq_nil_of_le (by have := HN.out.2; omega)]; rfl
      go_wp2
      go_ret
      exact ⟨ret_bool HE.out, HG.out⟩
/-- The blocks behind an instruction. -/
def nxL (op to el : Int) : List Int := if op = 8 then [to] else if op = 9 then (if to = el then [to] else if el < to then [el, to] else [to, el]) else []
theorem ms2 (a b : Int) : [a, b].mergeSort (fun x y => decide (x ≤ y)) = if a ≤ b then [a, b] else [b, a] := by
  simp [List.mergeSort, List.merge, List.MergeSort.Internal.splitInTwo]
theorem cp2 (a b : Int) : Lib.compact [a, b] = if a = b then [a] else [a, b] := by
  by_cases h : a = b
  · subst h
    rw [if_pos rfl]
    simp [Lib.compact, Lib.compactUpTo, Lib.keeps, List.range_succ]
  · rw [if_neg h]
    simp [Lib.compact, Lib.compactUpTo, Lib.keeps, List.range_succ, Ne.symm h]
/-- A row of numbers that a function has told. -/
def Told (w : World) (l : List Int) (e : Ending) (w' : World) : Prop := ∃ ao c, e = .returned (.slice ao l.length c) ∧ ArA w' ao c l ∧ Below w.heap.size w w'
theorem told_none {w w' : World} (h : Below w.heap.size w w') : Told w [] (.returned (.slice none 0 0)) w' := ⟨none, 0, rfl, ⟨Nat.le_refl _, by omega, fun h => absurd h (by simp)⟩, h⟩
theorem told_one {w w' : World} {b : Nat} {x : Int} {c : Nat} (hc : 1 ≤ c ∧ c ≤ 9) (h0 : w'.cell? ⟨b, 0, none⟩ = some (.int .i64 x)) (h : Below w.heap.size w w') : Told w [x] (.returned (.slice (some ⟨b, 0, none⟩) 1 c)) w' :=
  ⟨_, c, rfl, ⟨by simp; omega, by omega, fun _ => ⟨b, 0, rfl, fun j y hj => by
    match j, hj with
    | 0, hj => cases hj; exact h0
    | j + 1, hj => simp at hj⟩⟩, h⟩
theorem told_two {w w' : World} {b : Nat} {x y : Int} {c : Nat} (hc : 2 ≤ c ∧ c ≤ 9) (h0 : w'.cell? ⟨b, 0, none⟩ = some (.int .i64 x)) (h1 : w'.cell? ⟨b, 1, none⟩ = some (.int .i64 y)) (h : Below w.heap.size w w') : Told w [x, y] (.returned (.slice (some ⟨b, 0, none⟩) 2 c)) w' :=
  ⟨_, c, rfl, ⟨by simp; omega, by omega, fun _ => ⟨b, 0, rfl, fun j z hj => by
    match j, hj with
    | 0, hj => cases hj; exact h0
    | 1, hj => cases hj; exact h1
    | j + 2, hj => simp at hj⟩⟩, h⟩
set_option maxRecDepth 20000 in
theorem rnext20 (i : Ins) (w : World) : Calls Tryz.prog 20 #[inV i] w (Told w (nxL i.op i.to i.el)) := by
  unfold inV
  generalize i.gs.length = al
  have HB : Hid (∀ o, Below w.heap.size w (w.alloc o)) := fun o => ((G.refl w).alloc o).below
  have HB2 : Hid (∀ o o', Below w.heap.size w ((w.alloc o).alloc o')) := fun o o' => (((G.refl w).alloc o).alloc o').below
  by_cases h8 : i.op = 8
  · have HV : Hid (nxL i.op i.to i.el = [i.to]) := by show _ = _; unfold nxL; rw [if_pos h8]
    generalize nxL i.op i.to i.el = L at *
    rw [h8]
    go_enter Tryz.func20, Tryz.ntmps20
    go_wp2
    go_ret
    rw [HV.out]
    exact told_one (by omega) (by go_simp) (HB2.out _ _)
  by_cases h9 : i.op = 9
  · have q8 : ((9 : Int) == 8) = false := rfl
    by_cases he : i.to = i.el
    · have HV : Hid (nxL i.op i.to i.el = [i.to]) := by show _ = _; unfold nxL; rw [if_neg h8, if_pos h9, if_pos he]
      have q : (i.to == i.el) = true := by simpa using he
      generalize nxL i.op i.to i.el = L at *
      rw [h9]
      clear he h8 h9
      go_enter Tryz.func20, Tryz.ntmps20
      go_wp2
      go_ret
      rw [HV.out]
      exact told_one (by omega) (by go_simp) (HB2.out _ _)
    · have q : (i.to == i.el) = false := by simpa using he
      by_cases hl : i.el < i.to
      · have HV : Hid (nxL i.op i.to i.el = [i.el, i.to]) := by show _ = _; unfold nxL; rw [if_neg h8, if_pos h9, if_neg he, if_pos hl]
        generalize nxL i.op i.to i.el = L at *
        rw [h9]
        clear he h8 h9
        go_enter Tryz.func20, Tryz.ntmps20
        go_wp2
        go_ret
        rw [HV.out]
        exact told_two (by omega) (by go_simp) (by go_simp) (HB2.out _ _)
      · have HV : Hid (nxL i.op i.to i.el = [i.to, i.el]) := by show _ = _; unfold nxL; rw [if_neg h8, if_pos h9, if_neg he, if_neg hl]
        generalize nxL i.op i.to i.el = L at *
        rw [h9]
        clear he h8 h9
        go_enter Tryz.func20, Tryz.ntmps20
        go_wp2
        go_ret
        rw [HV.out]
        exact told_two (by omega) (by go_simp) (by go_simp) (HB2.out _ _)
  · have q8 : (i.op == 8) = false := by simpa using h8
    have q9 : (i.op == 9) = false := by simpa using h9
    have HV : Hid (nxL i.op i.to i.el = []) := by show _ = _; unfold nxL; rw [if_neg h8, if_neg h9]
    generalize nxL i.op i.to i.el = L at *
    clear h8 h9
    go_enter Tryz.func20, Tryz.ntmps20
    go_wp2
    go_ret
    rw [HV.out]
    exact told_none (HB.out _)
/-- Two numbers, sorted, and each once. -/
theorem two_told (w W : World) (a b : Int) (g : Nat) (hw : Below w.heap.size w W) (hg : w.heap.size ≤ g) (hgl : g < W.heap.size) (h0 : W.cell? ⟨g, 0, none⟩ = some (.int .i64 a)) (h1 : W.cell? ⟨g, 1, none⟩ = some (.int .i64 b)) (z0 : W.frozen? ⟨g, 0, none⟩ = false) (z1 : W.frozen? ⟨g, 1, none⟩ = false) :
    Calls Tryz.prog 38 #[.slice (some ⟨g, 0, none⟩) 2 2] W fun e W1 => e = .returned (.tuple #[]) ∧ Calls Tryz.prog 39 #[.slice (some ⟨g, 0, none⟩) 2 2] W1 (Told w (nxL 9 a b)) := by
  have hH : Holds (Value.int .i64) W g 0 [a, b].toArray := fun j hj => by
    obtain rfl | rfl : j = 0 ∨ j = 1 := by simp at hj; omega
    · exact ⟨h0, z0⟩
    · exact ⟨h1, z1⟩
  refine (Tryz.slices_Sort_int g 0 2 [a, b] W hH hgl (by simp)).mono ?_
  rintro e W1 ⟨rfl, n, os, rfl⟩
  refine ⟨rfl, ?_⟩
  obtain ⟨S, hS⟩ : ∃ S, S = [a, b].mergeSort (fun x y => decide (x ≤ y)) := ⟨_, rfl⟩
  have hlen : S.length = 2 := by rw [hS]; simp
  rw [← hS]
  have hH2 : Holds (Value.int .i64) (putRow (Value.int .i64) (Sort.ahead W n) g 0 S.toArray) g 0 S.toArray := holds_putRow _ _ _ _ [a, b].toArray S.toArray hH (by simp [hlen])
  have hb1 : Below w.heap.size w (grow (putRow (Value.int .i64) (Sort.ahead W n) g 0 S.toArray) os) := below_grown (Nat.le_refl _) hw (grownBy_sortedI S.toArray) (fun k hk => by cases hk; exact hg)
  have hgs : g < (putRow (Value.int .i64) (Sort.ahead W n) g 0 S.toArray).heap.size := World.block_lt_of_cell? _ _ (hH2 0 (by simp [hlen])).1
  have hH3 := holds_grow _ _ os _ _ _ hgs hH2
  generalize grow (putRow (Value.int .i64) (Sort.ahead W n) g 0 S.toArray) os = X at *
  have hc : ∀ j, j < S.length → X.cell? ⟨g, 0 + j, none⟩ = some (.int .i64 (S.getD j 0)) := fun j hj => by
    have t := (hH3 j (by simpa using hj)).1
    rw [getElem!_pos _ j (by simpa using hj)] at t
    rw [t]
    simp [List.getD, hj]
  have hf : ∀ j, j < 2 → X.frozen? ⟨g, 0 + j, none⟩ = false := fun j hj => (hH3 j (by simp [hlen]; exact hj)).2
  refine (Tryz.slices_Compact_int_cells g 0 2 2 S X (by omega) (by omega) (by omega) hc hf).mono ?_
  rintro e W2 ⟨rfl, q, rfl⟩
  rw [List.take_of_length_le (by omega)]
  have hbw : ∀ vs, Below w.heap.size w ((X.drewN q).setCells g 0 vs) := fun vs => Go.below_setCells hg vs 0 _ (hb1.trans ((drew_below X q).mono hb1.size))
  have hsome : ∀ j, j < 2 → ((X.drewN q).cell? ⟨g, 0 + j, none⟩).isSome = true := fun j hj => by
    show (X.cell? ⟨g, 0 + j, none⟩).isSome = true
    rw [hc j (by omega)]
    rfl
  rw [ms2] at hS
  by_cases hab : a = b
  · subst hab
    rw [if_pos (Int.le_refl _)] at hS
    have e1 : Lib.compact S = [a] := by rw [hS, cp2, if_pos rfl]
    have e2 : nxL 9 a a = [a] := by simp [nxL]
    rw [e1, e2]
    refine told_one (by omega) ?_ (hbw _)
    have t := World.cell?_setCells_in g ([.int .i64 a, .int .i64 0]) 0 (X.drewN q) (fun j hj => hsome j (by simpa using hj)) 0 (by simp)
    simpa using t
  · have key : ∀ c d : Int, c ≠ d → S = [c, d] → nxL 9 a b = [c, d] → Told w (nxL 9 a b) (.returned (.slice (some ⟨g, 0, none⟩) (Lib.compact S).length 2)) ((X.drewN q).setCells g 0 ((Lib.compact S ++ List.replicate (2 - (Lib.compact S).length) 0).map (Value.int .i64))) := fun c d hcd h1 h2 => by
      have e1 : Lib.compact S = [c, d] := by rw [h1, cp2, if_neg hcd]
      rw [e1, h2]
      refine told_two (by omega) ?_ ?_ (hbw _)
      · have t := World.cell?_setCells_in g ([.int .i64 c, .int .i64 d]) 0 (X.drewN q) (fun j hj => hsome j (by simpa using hj)) 0 (by simp)
        simpa using t
      · have t := World.cell?_setCells_in g ([.int .i64 c, .int .i64 d]) 0 (X.drewN q) (fun j hj => hsome j (by simpa using hj)) 1 (by simp)
        simpa using t
    by_cases hle : a ≤ b
    · rw [if_pos hle] at hS
      exact key a b hab hS (by simp [nxL, hab]; omega)
    · rw [if_neg hle] at hS
      exact key b a (Ne.symm hab) hS (by simp [nxL, hab]; omega)
set_option maxRecDepth 20000 in
theorem next19 (i : Ins) (w : World) : Calls Tryz.prog 19 #[inV i] w (Told w (nxL i.op i.to i.el)) := by
  unfold inV
  generalize i.gs.length = al
  have HB : Hid (∀ o, Below w.heap.size w (w.alloc o)) := fun o => ((G.refl w).alloc o).below
  have HB2 : Hid (∀ o o', Below w.heap.size w ((w.alloc o).alloc o')) := fun o o' => (((G.refl w).alloc o).alloc o').below
  by_cases h8 : i.op = 8
  · have HV : Hid (nxL i.op i.to i.el = [i.to]) := by show _ = _; unfold nxL; rw [if_pos h8]
    generalize nxL i.op i.to i.el = L at *
    rw [h8]
    go_enter Tryz.func19, Tryz.ntmps19
    go_wp2
    go_ret
    rw [HV.out]
    exact told_one (by omega) (by go_simp) (HB2.out _ _)
  by_cases h9 : i.op = 9
  · rw [h9]
    have HT : Hid (∀ o, Calls Tryz.prog 38 #[.slice (some ⟨w.heap.size + 1, 0, none⟩) 2 2] ((w.alloc o).alloc (.cells #[.int .i64 i.to, .int .i64 i.el] 3)) fun e W1 => e = .returned (.tuple #[]) ∧ Calls Tryz.prog 39 #[.slice (some ⟨w.heap.size + 1, 0, none⟩) 2 2] W1 (Told w (nxL 9 i.to i.el))) := fun o => two_told w _ i.to i.el (w.heap.size + 1) (HB2.out _ _) (by omega) (by simp) (by go_simp) (by go_simp) (by go_simp) (by go_simp)
    clear h8 h9
    generalize nxL 9 i.to i.el = L at *
    go_enter Tryz.func19, Tryz.ntmps19
    go_wp2_with (first | (go_at_call 38; refine (HT.out _).mono ?_; rintro e W1 ⟨rfl, hC⟩; have HC : Hid (Calls Tryz.prog 39 #[.slice (some ⟨w.heap.size + 1, 0, none⟩) 2 2] W1 (Told w L)) := hC; clear hC))
    refine HC.out.mono ?_
    rintro e w2 ⟨ao, c, rfl, hA, hb⟩
    have HZ : Hid (ArA w2 ao c L ∧ Below w.heap.size w w2) := ⟨hA, hb⟩
    clear hA hb HC
    generalize hn : L.length = ln at *
    go_wp2
    go_ret
    exact ⟨ao, c, by rw [hn]; rfl, HZ.out.1, HZ.out.2⟩
  · have q8 : (i.op == 8) = false := by simpa using h8
    have q9 : (i.op == 9) = false := by simpa using h9
    have HV : Hid (nxL i.op i.to i.el = []) := by show _ = _; unfold nxL; rw [if_neg h8, if_neg h9]
    generalize nxL i.op i.to i.el = L at *
    clear h8 h9
    go_enter Tryz.func19, Tryz.ntmps19
    go_wp2
    go_ret
    rw [HV.out]
    exact told_none (HB.out _)
end
end Go.Proofs.YtdppoblbenbafaaGreatDoor
