/- The document's own printer: names of two parts, numbers. Plain. The document: a function put. -/
import Derived.Test.YtkkmeogehapjoaaGreatDoorDD
import Derived.Test.YtkkmeogehapjoaaGreatDoorRU
import Derived.Lib.IndexMore
namespace Go.Proofs.YtkkmeogehapjoaaGreatDoor
section
open Go.RowKit Go.Shelf
theorem name_ne {l : List UInt8} (h : nameB l = true) : l ≠ [] := by
  rintro rfl
  revert h
  decide
theorem name_no {l : List UInt8} (h : nameB l = true) {j : Nat} {c : UInt8} (hj : l[j]? = some c) : c ≠ 58 := by
  rintro rfl
  unfold nameB spB at h
  simp only [Bool.and_eq_true, decide_eq_true_eq] at h
  have hlt : j < l.length := (List.getElem?_eq_some_iff.1 hj).1
  have t := nsz_nm l (j := j) (by rw [h.1.1.2]; exact hlt)
  have e : bt l j = 58 := by simp [bt, List.getD, hj]
  rw [e] at t
  revert t
  decide
theorem pick_facts {s : List UInt8} (h : pkB s = true) : ∃ i : Nat, i + 2 ≤ s.length ∧ (Lib.cut s [58, 58]).1 = s.take i ∧ (Lib.cut s [58, 58]).2.1 = s.drop (i + 2) ∧ s[i]? = some 58 ∧ (∀ j, j < i → ∃ c, s[j]? = some c ∧ c ≠ 58) ∧ s.take i ≠ [] ∧ s.drop (i + 2) ≠ [] := by
  unfold pkB at h
  simp only [Bool.and_eq_true] at h
  obtain ⟨h1, h2, h3⟩ := h
  rcases Lib.index_spec s [58, 58] with ⟨e, _⟩ | ⟨i, e, hi, ho, _⟩
  · unfold Lib.cut at h1
    rw [e, if_neg (by decide)] at h1
    cases h1
  · have ec : Lib.cut s [58, 58] = (s.take i, s.drop (i + 2), true) := by
      unfold Lib.cut
      rw [e, if_pos (by omega)]
      simp
    rw [ec] at h2 h3
    have hr := Lib.index_room s [58, 58] (by omega)
    rw [e] at hr
    have hr' : i + 2 ≤ s.length := by simpa using (by exact_mod_cast hr : i + 2 ≤ s.length)
    refine ⟨i, hr', by rw [ec], by rw [ec], Lib.occAt_head (sub := [58, 58]) rfl ho, fun j hj => ?_, name_ne h2, name_ne h3⟩
    have hjl : j < s.length := by omega
    refine ⟨s[j], List.getElem?_eq_getElem hjl, ?_⟩
    exact name_no h2 (j := j) (by rw [List.getElem?_take_of_lt hj]; exact List.getElem?_eq_getElem hjl)
theorem dec_no (u : Nat) : ∀ c ∈ Lib.decDigits u, c ≠ 45 := by
  intro c hc
  rw [Lib.decDigits_eq] at hc
  obtain ⟨k, _, rfl⟩ := List.mem_map.1 hc
  intro e
  have t := congrArg UInt8.toNat e
  unfold Lib.dg at t
  obtain ⟨q, hq⟩ : ∃ q, q = u / 10 ^ (Lib.nDigits u - 1 - k) % 10 := ⟨_, rfl⟩
  have hq10 : q < 10 := by rw [hq]; exact Nat.mod_lt _ (by decide)
  rw [← hq, UInt8.toNat_ofNat'] at t
  have : (45 : UInt8).toNat = 45 := rfl
  omega
theorem trim_neg {v : Int} (h : v < 0) : Lib.trimPrefix (Lib.itoa v) [45] = Lib.itoa (-v) := by
  have e1 : Lib.itoa v = 45 :: Lib.decDigits v.natAbs := by unfold Lib.itoa; rw [if_pos h]
  have e2 : Lib.itoa (-v) = Lib.decDigits (-v).toNat := by unfold Lib.itoa; rw [if_neg (by omega)]
  rw [e1, e2]
  unfold Lib.trimPrefix Lib.hasPrefix
  rw [if_pos (by simp)]
  simp only [List.length_cons, List.length_nil, Nat.zero_add, List.drop_succ_cons, List.drop_zero]
  rw [show v.natAbs = (-v).toNat by omega]
theorem trim_pos {v : Int} (h : ¬ v < 0) : Lib.trimPrefix (Lib.itoa v) [45] = Lib.itoa v := by
  unfold Lib.itoa Lib.trimPrefix Lib.hasPrefix
  rw [if_neg h]
  rw [if_neg]
  intro hp
  cases hd : Lib.decDigits v.toNat with
  | nil => rw [hd] at hp; cases hp
  | cons c r =>
    rw [hd] at hp
    simp [List.isPrefixOf] at hp
    exact dec_no v.toNat c (by rw [hd]; exact List.mem_cons_self ..) hp.symm
theorem itoa_ne (v : Int) : Lib.itoa v ≠ [] := by
  have hd : ∀ u, Lib.decDigits u ≠ [] := fun u e => by
    have t := Lib.decDigits_length u
    rw [e] at t
    have := Lib.nDigits_pos u
    simp at t
    omega
  unfold Lib.itoa
  split
  · simp
  · exact hd _
end
section
open Go.RowKit Go.Shelf
set_option maxRecDepth 100000 in
set_option maxHeartbeats 4000000 in
theorem rf_2a (w0 : World) (b : Nat) (ao : Option Addr) (c : Nat) (l : List Nd) (nt : Nat → Tks) (K : Nat) (x : Nd) (hk : x.k = 2) (hr : NdR w0 b ao c l nt K x) (hnm : x.nm.data.toList ≠ []) (hu : kdK l (kidN x (x.ks.length - 2)) = 12) : PrR w0 b (.slice ao l.length c) l nt 49 x (prtK l x 2) := by
  intro t W hS hlen
  have har : 2 ≤ x.ks.length := by have := hr.nk.ar; rw [hk] at this; simpa [arB] using this
  obtain ⟨m2, hm2⟩ : ∃ m2, m2 = x.ks.length - 2 := ⟨_, rfl⟩
  have hm1 : x.ks.length - 1 = m2 + 1 := by omega
  obtain ⟨q0, hq0⟩ : ∃ q0, q0 = kidN x m2 := ⟨_, rfl⟩
  obtain ⟨q1, hq1⟩ : ∃ q1, q1 = kidN x (m2 + 1) := ⟨_, rfl⟩
  rw [← hm2, ← hq0] at hu
  have hE0 : run t (psT nt l (prtK l x 2)) = run (run (run (run (run (run t [[102, 110]]) [x.nm.data.toList]) [[40]]) (comT nt 0 (x.ks.take m2))) [[41]]) (nt q1) := by
    show run t (psT nt l ([.s ⟨#[102, 110]⟩, .s x.nm, .s ⟨#[40]⟩, .li none 0 (x.ks.take (x.ks.length - 2)), .s ⟨#[41]⟩] ++ ((if kdK l (kidN x (x.ks.length - 2)) = 12 then [] else [.s ⟨#[45, 62]⟩, .n (kidN x (x.ks.length - 2))]) ++ [.n (kidN x (x.ks.length - 1))]))) = _
    rw [hm1, ← hm2, ← hq0, ← hq1, if_pos hu]
    simp only [psT_app, psT, Pt.tk, run_app, List.append_nil, run_nil]
  rw [hE0] at hlen ⊢
  clear hE0
  obtain ⟨T1, hT1⟩ : ∃ T, run t [[102, 110]] = T := ⟨_, rfl⟩
  rw [hT1] at hlen ⊢
  obtain ⟨T2, hT2⟩ : ∃ T, run T1 [x.nm.data.toList] = T := ⟨_, rfl⟩
  rw [hT2] at hlen ⊢
  obtain ⟨T3, hT3⟩ : ∃ T, run T2 [[40]] = T := ⟨_, rfl⟩
  rw [hT3] at hlen ⊢
  obtain ⟨T4, hT4⟩ : ∃ T, run T3 (comT nt 0 (x.ks.take m2)) = T := ⟨_, rfl⟩
  rw [hT4] at hlen ⊢
  obtain ⟨T5, hT5⟩ : ∃ T, run T4 [[41]] = T := ⟨_, rfl⟩
  rw [hT5] at hlen ⊢
  obtain ⟨T6, hT6⟩ : ∃ T, run T5 (nt q1) = T := ⟨_, rfl⟩
  rw [hT6] at hlen ⊢
  have hl6 : T6.length ≤ 140737488355328 := hlen
  have hl5 : T5.length ≤ 140737488355328 := Nat.le_trans (run_le _ _) (by rw [hT6]; exact hl6)
  have hl4 : T4.length ≤ 140737488355328 := Nat.le_trans (run_le _ _) (by rw [hT5]; exact hl5)
  have hl3 : T3.length ≤ 140737488355328 := Nat.le_trans (run_le _ _) (by rw [hT4]; exact hl4)
  have hl2 : T2.length ≤ 140737488355328 := Nat.le_trans (run_le _ _) (by rw [hT3]; exact hl3)
  have hl1 : T1.length ≤ 140737488355328 := Nat.le_trans (run_le _ _) (by rw [hT2]; exact hl2)
  have hIt : IsA w0 x.ka x.kc (x.ks.take m2) := isa_take hr.nk.ks m2
  have htl : (x.ks.take m2).length = m2 := by rw [List.length_take]; omega
  have HC1 : Hid (∀ W, RSt w0 b (.slice ao l.length c) t W → Calls Tryz.prog 53 #[.pointer (some ⟨b, 0, none⟩), .string ⟨#[102, 110]⟩] W fun e w' => e = .returned (.tuple #[]) ∧ PoR w0 b (.slice ao l.length c) T1 W w') := rput_h (s := ⟨#[102, 110]⟩) (by simp) hT1 hl1
  have HC2 : Hid (∀ W, RSt w0 b (.slice ao l.length c) T1 W → Calls Tryz.prog 53 #[.pointer (some ⟨b, 0, none⟩), .string x.nm] W fun e w' => e = .returned (.tuple #[]) ∧ PoR w0 b (.slice ao l.length c) T2 W w') := rput_h hnm hT2 hl2
  have HC3 : Hid (∀ W, RSt w0 b (.slice ao l.length c) T2 W → Calls Tryz.prog 53 #[.pointer (some ⟨b, 0, none⟩), .string ⟨#[40]⟩] W fun e w' => e = .returned (.tuple #[]) ∧ PoR w0 b (.slice ao l.length c) T3 W w') := rput_h (s := ⟨#[40]⟩) (by simp) hT3 hl3
  have HC4 : Hid (∀ W, RSt w0 b (.slice ao l.length c) T3 W → Calls Tryz.prog 79 #[.pointer (some ⟨b, 0, none⟩), .slice x.ka (x.ks.take m2).length x.kc] W fun e w' => e = .returned (.tuple #[]) ∧ PoR w0 b (.slice ao l.length c) T4 W w') := rrow_h hIt (fun y hy => hr.all y (List.mem_of_mem_take hy)) hT4 hl4
  have HC5 : Hid (∀ W, RSt w0 b (.slice ao l.length c) T4 W → Calls Tryz.prog 53 #[.pointer (some ⟨b, 0, none⟩), .string ⟨#[41]⟩] W fun e w' => e = .returned (.tuple #[]) ∧ PoR w0 b (.slice ao l.length c) T5 W w') := rput_h (s := ⟨#[41]⟩) (by simp) hT5 hl5
  have HC6 : Hid (∀ W, RSt w0 b (.slice ao l.length c) T5 W → Calls Tryz.prog 29 #[.pointer (some ⟨b, 0, none⟩), .int .i64 (q1 : Nat)] W fun e w' => e = .returned (.tuple #[]) ∧ PoR w0 b (.slice ao l.length c) T6 W w') := rnode_h (by rw [hq1]; exact hr.kid (m2 + 1) (by omega)) hT6 hl6
  rw [htl] at HC4
  have HS : Hid (RSt w0 b (.slice ao l.length c) t W) := hS
  obtain ⟨g0, o0, hka, hcell⟩ := hr.nk.addr (by omega)
  have HX : Hid (∀ W, Below w0.heap.size w0 W → W.cell? ⟨g0, o0 + m2, none⟩ = some (.int .i64 (q0 : Nat)) ∧ W.cell? ⟨g0, o0 + (m2 + 1), none⟩ = some (.int .i64 (q1 : Nat))) := fun W hW => ⟨by rw [hq0]; exact hcell W hW m2 (by omega), by rw [hq1]; exact hcell W hW (m2 + 1) (by omega)⟩
  rw [hka] at HC4
  have hqn : q0 < l.length := by rw [hq0]; exact hr.kl m2 (by omega)
  obtain ⟨y, hy⟩ : ∃ y, l[q0]? = some y := ⟨_, List.getElem?_eq_getElem hqn⟩
  have hkd : kdK l (q0 : Int) = y.k := by unfold kdK; rw [Int.toNat_natCast, hy]
  rw [hkd] at hu
  obtain ⟨gn, on, hao, _⟩ := hr.hl.2.2.2 (by omega)
  subst hao
  have HY : Hid (∀ W, Below w0.heap.size w0 W → W.cell? ⟨gn, on + q0 * 6, none⟩ = some (.int .i64 y.k)) := fun W hW => by
    obtain ⟨_, _, _, i4⟩ := hr.hl.below hW
    obtain ⟨g, o, e1, e2⟩ := i4 (by omega)
    cases e1
    exact (nd_cells e2 hy).1
  have hn1 := hr.hl.1
  have hn2 := hr.hl.2.1
  have hc1 := hr.nk.ks.1
  have hc2 := hr.nk.ks.2.1
  obtain ⟨xl, hxl⟩ : ∃ xl, xl = x.ks.length := ⟨_, rfl⟩
  rw [← hxl] at hc1 har
  unfold nda
  rw [hk, hka, ← hxl]
  have hqI : (q0 : Int) < (l.length : Int) := by omega
  have hw2 : IntKind.i64.wrap ((xl : Int) - 2) = (m2 : Int) := by simp [IntKind.wrap, IntKind.bits, IntKind.signed]; omega
  have hw1 : IntKind.i64.wrap ((xl : Int) - 1) = ((m2 + 1 : Nat) : Int) := by simp [IntKind.wrap, IntKind.bits, IntKind.signed]; omega
  have hv2 : (xl : Int) - 2 = (m2 : Int) := by omega
  have hv1 : (xl : Int) - 1 = ((m2 + 1 : Nat) : Int) := by omega
  have b1 : m2 < xl := by omega
  have b2 : m2 + 1 < xl := by omega
  have b3 : (m2 : Int) < (xl : Int) := by omega
  have b4 : ((m2 + 1 : Nat) : Int) < (xl : Int) := by omega
  have b5 : (m2 : Int) ≤ (x.kc : Int) := by omega
  have c53 := cells53
  have c3 := cells3'
  generalize y.k = Y at *
  clear hr hlen hS hnm hIt htl hcell hka hkd hy hq0 hq1 hm1 hm2 hxl hk hT1 hl1 hT2 hl2 hT3 hl3 hT4 hl4 hT5 hl5 hT6 hl6
  generalize x.nm = xn at *
  generalize x.v = xv at *
  generalize x.kc = xc at *
  generalize x.fr = xf at *
  generalize x.en = xe at *
  generalize l.length = ln at *
  have HB0 : Hid (BsR w0 b (.slice (some ⟨gn, on, none⟩) ln c) t W #[.int .i64 2, .string xn, .int .i64 xv, .slice (some ⟨g0, o0, none⟩) xl xc, .int .i64 xf, .int .i64 xe] (W.alloc (.cells #[.int .i64 2, .string xn, .int .i64 xv, .slice (some ⟨g0, o0, none⟩) xl xc, .int .i64 xf, .int .i64 xe] 53))) := BsR.start HS.out _
  go_enter Tryz.func49, Tryz.ntmps49
  go_wp2_with fail
  refine (HC1.out _ HB0.out.st).mono ?_
  rintro e w1 ⟨rfl, hE⟩
  have HB1 : Hid (BsR w0 b (.slice (some ⟨gn, on, none⟩) ln c) T1 W #[.int .i64 2, .string xn, .int .i64 xv, .slice (some ⟨g0, o0, none⟩) xl xc, .int .i64 xf, .int .i64 xe] w1) := HB0.out.put hE
  clear hE
  obtain ⟨d10, d11, d12, d13, d14, d15⟩ := box6 HB1.out.bx
  go_wp2_with fail
  refine (HC2.out _ HB1.out.st).mono ?_
  rintro e w2 ⟨rfl, hE⟩
  have HB2 : Hid (BsR w0 b (.slice (some ⟨gn, on, none⟩) ln c) T2 W #[.int .i64 2, .string xn, .int .i64 xv, .slice (some ⟨g0, o0, none⟩) xl xc, .int .i64 xf, .int .i64 xe] w2) := HB1.out.put hE
  clear hE
  obtain ⟨d20, d21, d22, d23, d24, d25⟩ := box6 HB2.out.bx
  go_wp2_with fail
  refine (HC3.out _ HB2.out.st).mono ?_
  rintro e w3 ⟨rfl, hE⟩
  have HB3 : Hid (BsR w0 b (.slice (some ⟨gn, on, none⟩) ln c) T3 W #[.int .i64 2, .string xn, .int .i64 xv, .slice (some ⟨g0, o0, none⟩) xl xc, .int .i64 xf, .int .i64 xe] w3) := HB2.out.put hE
  clear hE
  obtain ⟨d30, d31, d32, d33, d34, d35⟩ := box6 HB3.out.bx
  go_wp2_with fail
  refine (HC4.out _ HB3.out.st).mono ?_
  rintro e w4 ⟨rfl, hE⟩
  have HB4 : Hid (BsR w0 b (.slice (some ⟨gn, on, none⟩) ln c) T4 W #[.int .i64 2, .string xn, .int .i64 xv, .slice (some ⟨g0, o0, none⟩) xl xc, .int .i64 xf, .int .i64 xe] w4) := HB3.out.put hE
  clear hE
  obtain ⟨d40, d41, d42, d43, d44, d45⟩ := box6 HB4.out.bx
  go_wp2_with fail
  refine (HC5.out _ HB4.out.st).mono ?_
  rintro e w5 ⟨rfl, hE⟩
  have HB5 : Hid (BsR w0 b (.slice (some ⟨gn, on, none⟩) ln c) T5 W #[.int .i64 2, .string xn, .int .i64 xv, .slice (some ⟨g0, o0, none⟩) xl xc, .int .i64 xf, .int .i64 xe] w5) := HB4.out.put hE
  clear hE
  obtain ⟨d50, d51, d52, d53, d54, d55⟩ := box6 HB5.out.bx
  obtain ⟨r50, r51⟩ := HX.out w5 HB5.out.st.bl
  have y5 := HY.out w5 HB5.out.st.bl
  have s5 := HB5.out.st.c0
  clear d10 d11 d12 d13 d14 d15 d20 d21 d22 d23 d24 d25 d30 d31 d32 d33 d34 d35 d40 d41 d42 d43 d44 d45
  subst hu
  go_wp2
  go_quiet (fail)
  have HB5q : Hid (BsR w0 b (.slice (some ⟨gn, on, none⟩) ln c) T5 W #[.int .i64 2, .string xn, .int .i64 xv, .slice (some ⟨g0, o0, none⟩) xl xc, .int .i64 xf, .int .i64 xe] (w5.drewN nq)) := HB5.out.later (drew_below _ _)
  clear d50 d51 d52 d53 d54 d55 r50 r51 y5 s5 HB5
  generalize w5.drewN nq = wq at *
  obtain ⟨d50, d51, d52, d53, d54, d55⟩ := box6 HB5q.out.bx
  obtain ⟨r50, r51⟩ := HX.out wq HB5q.out.st.bl
  have HB5 : Hid (BsR w0 b (.slice (some ⟨gn, on, none⟩) ln c) T5 W #[.int .i64 2, .string xn, .int .i64 xv, .slice (some ⟨g0, o0, none⟩) xl xc, .int .i64 xf, .int .i64 xe] wq) := HB5q.out
  go_wp2_with fail
  refine (HC6.out _ HB5.out.st).mono ?_
  rintro e w6 ⟨rfl, hE⟩
  have HB6 : Hid (BsR w0 b (.slice (some ⟨gn, on, none⟩) ln c) T6 W #[.int .i64 2, .string xn, .int .i64 xv, .slice (some ⟨g0, o0, none⟩) xl xc, .int .i64 xf, .int .i64 xe] w6) := HB5.out.put hE
  clear hE
  have HE : Hid (PoR w0 b (.slice (some ⟨gn, on, none⟩) ln c) T6 W w6) := HB6.out.pos
  clear HB6
  go_wp2
  go_end0
  exact ⟨rfl, HE.out⟩
set_option maxRecDepth 100000 in
set_option maxHeartbeats 4000000 in
theorem rf_2b (w0 : World) (b : Nat) (ao : Option Addr) (c : Nat) (l : List Nd) (nt : Nat → Tks) (K : Nat) (x : Nd) (hk : x.k = 2) (hr : NdR w0 b ao c l nt K x) (hnm : x.nm.data.toList ≠ []) (hu : ¬ kdK l (kidN x (x.ks.length - 2)) = 12) : PrR w0 b (.slice ao l.length c) l nt 49 x (prtK l x 2) := by
  intro t W hS hlen
  have har : 2 ≤ x.ks.length := by have := hr.nk.ar; rw [hk] at this; simpa [arB] using this
  obtain ⟨m2, hm2⟩ : ∃ m2, m2 = x.ks.length - 2 := ⟨_, rfl⟩
  have hm1 : x.ks.length - 1 = m2 + 1 := by omega
  obtain ⟨q0, hq0⟩ : ∃ q0, q0 = kidN x m2 := ⟨_, rfl⟩
  obtain ⟨q1, hq1⟩ : ∃ q1, q1 = kidN x (m2 + 1) := ⟨_, rfl⟩
  rw [← hm2, ← hq0] at hu
  have hE0 : run t (psT nt l (prtK l x 2)) = run (run (run (run (run (run (run (run t [[102, 110]]) [x.nm.data.toList]) [[40]]) (comT nt 0 (x.ks.take m2))) [[41]]) [[45, 62]]) (nt q0)) (nt q1) := by
    show run t (psT nt l ([.s ⟨#[102, 110]⟩, .s x.nm, .s ⟨#[40]⟩, .li none 0 (x.ks.take (x.ks.length - 2)), .s ⟨#[41]⟩] ++ ((if kdK l (kidN x (x.ks.length - 2)) = 12 then [] else [.s ⟨#[45, 62]⟩, .n (kidN x (x.ks.length - 2))]) ++ [.n (kidN x (x.ks.length - 1))]))) = _
    rw [hm1, ← hm2, ← hq0, ← hq1, if_neg hu]
    simp only [psT_app, psT, Pt.tk, run_app, List.append_nil]
  rw [hE0] at hlen ⊢
  clear hE0
  obtain ⟨T1, hT1⟩ : ∃ T, run t [[102, 110]] = T := ⟨_, rfl⟩
  rw [hT1] at hlen ⊢
  obtain ⟨T2, hT2⟩ : ∃ T, run T1 [x.nm.data.toList] = T := ⟨_, rfl⟩
  rw [hT2] at hlen ⊢
  obtain ⟨T3, hT3⟩ : ∃ T, run T2 [[40]] = T := ⟨_, rfl⟩
  rw [hT3] at hlen ⊢
  obtain ⟨T4, hT4⟩ : ∃ T, run T3 (comT nt 0 (x.ks.take m2)) = T := ⟨_, rfl⟩
  rw [hT4] at hlen ⊢
  obtain ⟨T5, hT5⟩ : ∃ T, run T4 [[41]] = T := ⟨_, rfl⟩
  rw [hT5] at hlen ⊢
  obtain ⟨T6, hT6⟩ : ∃ T, run T5 [[45, 62]] = T := ⟨_, rfl⟩
  rw [hT6] at hlen ⊢
  obtain ⟨T7, hT7⟩ : ∃ T, run T6 (nt q0) = T := ⟨_, rfl⟩
  rw [hT7] at hlen ⊢
  obtain ⟨T8, hT8⟩ : ∃ T, run T7 (nt q1) = T := ⟨_, rfl⟩
  rw [hT8] at hlen ⊢
  have hl8 : T8.length ≤ 140737488355328 := hlen
  have hl7 : T7.length ≤ 140737488355328 := Nat.le_trans (run_le _ _) (by rw [hT8]; exact hl8)
  have hl6 : T6.length ≤ 140737488355328 := Nat.le_trans (run_le _ _) (by rw [hT7]; exact hl7)
  have hl5 : T5.length ≤ 140737488355328 := Nat.le_trans (run_le _ _) (by rw [hT6]; exact hl6)
  have hl4 : T4.length ≤ 140737488355328 := Nat.le_trans (run_le _ _) (by rw [hT5]; exact hl5)
  have hl3 : T3.length ≤ 140737488355328 := Nat.le_trans (run_le _ _) (by rw [hT4]; exact hl4)
  have hl2 : T2.length ≤ 140737488355328 := Nat.le_trans (run_le _ _) (by rw [hT3]; exact hl3)
  have hl1 : T1.length ≤ 140737488355328 := Nat.le_trans (run_le _ _) (by rw [hT2]; exact hl2)
  have hIt : IsA w0 x.ka x.kc (x.ks.take m2) := isa_take hr.nk.ks m2
  have htl : (x.ks.take m2).length = m2 := by rw [List.length_take]; omega
  have HC1 : Hid (∀ W, RSt w0 b (.slice ao l.length c) t W → Calls Tryz.prog 53 #[.pointer (some ⟨b, 0, none⟩), .string ⟨#[102, 110]⟩] W fun e w' => e = .returned (.tuple #[]) ∧ PoR w0 b (.slice ao l.length c) T1 W w') := rput_h (s := ⟨#[102, 110]⟩) (by simp) hT1 hl1
  have HC2 : Hid (∀ W, RSt w0 b (.slice ao l.length c) T1 W → Calls Tryz.prog 53 #[.pointer (some ⟨b, 0, none⟩), .string x.nm] W fun e w' => e = .returned (.tuple #[]) ∧ PoR w0 b (.slice ao l.length c) T2 W w') := rput_h hnm hT2 hl2
  have HC3 : Hid (∀ W, RSt w0 b (.slice ao l.length c) T2 W → Calls Tryz.prog 53 #[.pointer (some ⟨b, 0, none⟩), .string ⟨#[40]⟩] W fun e w' => e = .returned (.tuple #[]) ∧ PoR w0 b (.slice ao l.length c) T3 W w') := rput_h (s := ⟨#[40]⟩) (by simp) hT3 hl3
  have HC4 : Hid (∀ W, RSt w0 b (.slice ao l.length c) T3 W → Calls Tryz.prog 79 #[.pointer (some ⟨b, 0, none⟩), .slice x.ka (x.ks.take m2).length x.kc] W fun e w' => e = .returned (.tuple #[]) ∧ PoR w0 b (.slice ao l.length c) T4 W w') := rrow_h hIt (fun y hy => hr.all y (List.mem_of_mem_take hy)) hT4 hl4
  have HC5 : Hid (∀ W, RSt w0 b (.slice ao l.length c) T4 W → Calls Tryz.prog 53 #[.pointer (some ⟨b, 0, none⟩), .string ⟨#[41]⟩] W fun e w' => e = .returned (.tuple #[]) ∧ PoR w0 b (.slice ao l.length c) T5 W w') := rput_h (s := ⟨#[41]⟩) (by simp) hT5 hl5
  have HC6 : Hid (∀ W, RSt w0 b (.slice ao l.length c) T5 W → Calls Tryz.prog 53 #[.pointer (some ⟨b, 0, none⟩), .string ⟨#[45, 62]⟩] W fun e w' => e = .returned (.tuple #[]) ∧ PoR w0 b (.slice ao l.length c) T6 W w') := rput_h (s := ⟨#[45, 62]⟩) (by simp) hT6 hl6
  have HC7 : Hid (∀ W, RSt w0 b (.slice ao l.length c) T6 W → Calls Tryz.prog 29 #[.pointer (some ⟨b, 0, none⟩), .int .i64 (q0 : Nat)] W fun e w' => e = .returned (.tuple #[]) ∧ PoR w0 b (.slice ao l.length c) T7 W w') := rnode_h (by rw [hq0]; exact hr.kid m2 (by omega)) hT7 hl7
  have HC8 : Hid (∀ W, RSt w0 b (.slice ao l.length c) T7 W → Calls Tryz.prog 29 #[.pointer (some ⟨b, 0, none⟩), .int .i64 (q1 : Nat)] W fun e w' => e = .returned (.tuple #[]) ∧ PoR w0 b (.slice ao l.length c) T8 W w') := rnode_h (by rw [hq1]; exact hr.kid (m2 + 1) (by omega)) hT8 hl8
  rw [htl] at HC4
  have HS : Hid (RSt w0 b (.slice ao l.length c) t W) := hS
  obtain ⟨g0, o0, hka, hcell⟩ := hr.nk.addr (by omega)
  have HX : Hid (∀ W, Below w0.heap.size w0 W → W.cell? ⟨g0, o0 + m2, none⟩ = some (.int .i64 (q0 : Nat)) ∧ W.cell? ⟨g0, o0 + (m2 + 1), none⟩ = some (.int .i64 (q1 : Nat))) := fun W hW => ⟨by rw [hq0]; exact hcell W hW m2 (by omega), by rw [hq1]; exact hcell W hW (m2 + 1) (by omega)⟩
  rw [hka] at HC4
  have hqn : q0 < l.length := by rw [hq0]; exact hr.kl m2 (by omega)
  obtain ⟨y, hy⟩ : ∃ y, l[q0]? = some y := ⟨_, List.getElem?_eq_getElem hqn⟩
  have hkd : kdK l (q0 : Int) = y.k := by unfold kdK; rw [Int.toNat_natCast, hy]
  rw [hkd] at hu
  obtain ⟨gn, on, hao, _⟩ := hr.hl.2.2.2 (by omega)
  subst hao
  have HY : Hid (∀ W, Below w0.heap.size w0 W → W.cell? ⟨gn, on + q0 * 6, none⟩ = some (.int .i64 y.k)) := fun W hW => by
    obtain ⟨_, _, _, i4⟩ := hr.hl.below hW
    obtain ⟨g, o, e1, e2⟩ := i4 (by omega)
    cases e1
    exact (nd_cells e2 hy).1
  have hn1 := hr.hl.1
  have hn2 := hr.hl.2.1
  have hc1 := hr.nk.ks.1
  have hc2 := hr.nk.ks.2.1
  obtain ⟨xl, hxl⟩ : ∃ xl, xl = x.ks.length := ⟨_, rfl⟩
  rw [← hxl] at hc1 har
  unfold nda
  rw [hk, hka, ← hxl]
  have hqI : (q0 : Int) < (l.length : Int) := by omega
  have hw2 : IntKind.i64.wrap ((xl : Int) - 2) = (m2 : Int) := by simp [IntKind.wrap, IntKind.bits, IntKind.signed]; omega
  have hw1 : IntKind.i64.wrap ((xl : Int) - 1) = ((m2 + 1 : Nat) : Int) := by simp [IntKind.wrap, IntKind.bits, IntKind.signed]; omega
  have hv2 : (xl : Int) - 2 = (m2 : Int) := by omega
  have hv1 : (xl : Int) - 1 = ((m2 + 1 : Nat) : Int) := by omega
  have b1 : m2 < xl := by omega
  have b2 : m2 + 1 < xl := by omega
  have b3 : (m2 : Int) < (xl : Int) := by omega
  have b4 : ((m2 + 1 : Nat) : Int) < (xl : Int) := by omega
  have b5 : (m2 : Int) ≤ (x.kc : Int) := by omega
  have c53 := cells53
  have c3 := cells3'
  generalize y.k = Y at *
  clear hr hlen hS hnm hIt htl hcell hka hkd hy hq0 hq1 hm1 hm2 hxl hk hT1 hl1 hT2 hl2 hT3 hl3 hT4 hl4 hT5 hl5 hT6 hl6 hT7 hl7 hT8 hl8
  generalize x.nm = xn at *
  generalize x.v = xv at *
  generalize x.kc = xc at *
  generalize x.fr = xf at *
  generalize x.en = xe at *
  generalize l.length = ln at *
  have HB0 : Hid (BsR w0 b (.slice (some ⟨gn, on, none⟩) ln c) t W #[.int .i64 2, .string xn, .int .i64 xv, .slice (some ⟨g0, o0, none⟩) xl xc, .int .i64 xf, .int .i64 xe] (W.alloc (.cells #[.int .i64 2, .string xn, .int .i64 xv, .slice (some ⟨g0, o0, none⟩) xl xc, .int .i64 xf, .int .i64 xe] 53))) := BsR.start HS.out _
  go_enter Tryz.func49, Tryz.ntmps49
  go_wp2_with fail
  refine (HC1.out _ HB0.out.st).mono ?_
  rintro e w1 ⟨rfl, hE⟩
  have HB1 : Hid (BsR w0 b (.slice (some ⟨gn, on, none⟩) ln c) T1 W #[.int .i64 2, .string xn, .int .i64 xv, .slice (some ⟨g0, o0, none⟩) xl xc, .int .i64 xf, .int .i64 xe] w1) := HB0.out.put hE
  clear hE
  obtain ⟨d10, d11, d12, d13, d14, d15⟩ := box6 HB1.out.bx
  go_wp2_with fail
  refine (HC2.out _ HB1.out.st).mono ?_
  rintro e w2 ⟨rfl, hE⟩
  have HB2 : Hid (BsR w0 b (.slice (some ⟨gn, on, none⟩) ln c) T2 W #[.int .i64 2, .string xn, .int .i64 xv, .slice (some ⟨g0, o0, none⟩) xl xc, .int .i64 xf, .int .i64 xe] w2) := HB1.out.put hE
  clear hE
  obtain ⟨d20, d21, d22, d23, d24, d25⟩ := box6 HB2.out.bx
  go_wp2_with fail
  refine (HC3.out _ HB2.out.st).mono ?_
  rintro e w3 ⟨rfl, hE⟩
  have HB3 : Hid (BsR w0 b (.slice (some ⟨gn, on, none⟩) ln c) T3 W #[.int .i64 2, .string xn, .int .i64 xv, .slice (some ⟨g0, o0, none⟩) xl xc, .int .i64 xf, .int .i64 xe] w3) := HB2.out.put hE
  clear hE
  obtain ⟨d30, d31, d32, d33, d34, d35⟩ := box6 HB3.out.bx
  go_wp2_with fail
  refine (HC4.out _ HB3.out.st).mono ?_
  rintro e w4 ⟨rfl, hE⟩
  have HB4 : Hid (BsR w0 b (.slice (some ⟨gn, on, none⟩) ln c) T4 W #[.int .i64 2, .string xn, .int .i64 xv, .slice (some ⟨g0, o0, none⟩) xl xc, .int .i64 xf, .int .i64 xe] w4) := HB3.out.put hE
  clear hE
  obtain ⟨d40, d41, d42, d43, d44, d45⟩ := box6 HB4.out.bx
  go_wp2_with fail
  refine (HC5.out _ HB4.out.st).mono ?_
  rintro e w5 ⟨rfl, hE⟩
  have HB5 : Hid (BsR w0 b (.slice (some ⟨gn, on, none⟩) ln c) T5 W #[.int .i64 2, .string xn, .int .i64 xv, .slice (some ⟨g0, o0, none⟩) xl xc, .int .i64 xf, .int .i64 xe] w5) := HB4.out.put hE
  clear hE
  obtain ⟨d50, d51, d52, d53, d54, d55⟩ := box6 HB5.out.bx
  obtain ⟨r50, r51⟩ := HX.out w5 HB5.out.st.bl
  have y5 := HY.out w5 HB5.out.st.bl
  have s5 := HB5.out.st.c0
  clear d10 d11 d12 d13 d14 d15 d20 d21 d22 d23 d24 d25 d30 d31 d32 d33 d34 d35 d40 d41 d42 d43 d44 d45
  have hYb : (Y == 12) = false := by simpa using hu
  have hYn : (Y != 12) = true := by simpa using hu
  clear hu
  go_wp2
  go_quiet (fail)
  have HB5q : Hid (BsR w0 b (.slice (some ⟨gn, on, none⟩) ln c) T5 W #[.int .i64 2, .string xn, .int .i64 xv, .slice (some ⟨g0, o0, none⟩) xl xc, .int .i64 xf, .int .i64 xe] (w5.drewN nq)) := HB5.out.later (drew_below _ _)
  clear d50 d51 d52 d53 d54 d55 r50 r51 y5 s5 HB5
  generalize w5.drewN nq = wq at *
  obtain ⟨d50, d51, d52, d53, d54, d55⟩ := box6 HB5q.out.bx
  obtain ⟨r50, r51⟩ := HX.out wq HB5q.out.st.bl
  have HB5 : Hid (BsR w0 b (.slice (some ⟨gn, on, none⟩) ln c) T5 W #[.int .i64 2, .string xn, .int .i64 xv, .slice (some ⟨g0, o0, none⟩) xl xc, .int .i64 xf, .int .i64 xe] wq) := HB5q.out
  go_wp2_with fail
  refine (HC6.out _ HB5.out.st).mono ?_
  rintro e w6 ⟨rfl, hE⟩
  have HB6 : Hid (BsR w0 b (.slice (some ⟨gn, on, none⟩) ln c) T6 W #[.int .i64 2, .string xn, .int .i64 xv, .slice (some ⟨g0, o0, none⟩) xl xc, .int .i64 xf, .int .i64 xe] w6) := HB5.out.put hE
  clear hE
  obtain ⟨d60, d61, d62, d63, d64, d65⟩ := box6 HB6.out.bx
  obtain ⟨r60, r61⟩ := HX.out w6 HB6.out.st.bl
  go_wp2_with fail
  refine (HC7.out _ HB6.out.st).mono ?_
  rintro e w7 ⟨rfl, hE⟩
  have HB7 : Hid (BsR w0 b (.slice (some ⟨gn, on, none⟩) ln c) T7 W #[.int .i64 2, .string xn, .int .i64 xv, .slice (some ⟨g0, o0, none⟩) xl xc, .int .i64 xf, .int .i64 xe] w7) := HB6.out.put hE
  clear hE
  obtain ⟨d70, d71, d72, d73, d74, d75⟩ := box6 HB7.out.bx
  obtain ⟨r70, r71⟩ := HX.out w7 HB7.out.st.bl
  go_wp2_with fail
  refine (HC8.out _ HB7.out.st).mono ?_
  rintro e w8 ⟨rfl, hE⟩
  have HB8 : Hid (BsR w0 b (.slice (some ⟨gn, on, none⟩) ln c) T8 W #[.int .i64 2, .string xn, .int .i64 xv, .slice (some ⟨g0, o0, none⟩) xl xc, .int .i64 xf, .int .i64 xe] w8) := HB7.out.put hE
  clear hE
  have HE : Hid (PoR w0 b (.slice (some ⟨gn, on, none⟩) ln c) T8 W w8) := HB8.out.pos
  clear HB8
  go_wp2
  go_end0
  exact ⟨rfl, HE.out⟩
end
end Go.Proofs.YtkkmeogehapjoaaGreatDoor
