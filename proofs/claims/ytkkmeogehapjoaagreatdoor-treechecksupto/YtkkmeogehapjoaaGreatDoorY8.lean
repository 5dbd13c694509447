/- A function put. A printer's text as a string, where there is one. Check, Depth; Print of a tree that is right. -/
import Derived.Test.YtkkmeogehapjoaaGreatDoorYB
import Derived.Shelf.Strings.Builder1
namespace Go.Proofs.YtkkmeogehapjoaaGreatDoor
section
open Go.RowKit Go.Shelf
set_option maxRecDepth 100000 in
set_option maxHeartbeats 4000000 in
theorem cut89a (ks : List Int) (ko : Option Addr) (kc last : Nat) (w : World) (hk : IsA w ko kc ks) (hb : last ≤ 4294967296) : Calls Tryz.prog 89 #[.slice ko ks.length kc, .int .i64 last] w fun e w' => (∃ n, w' = w.drewN n) ∧ ∃ a1 c1 a2 c2, e = .returned (.tuple #[.slice a1 (ks.take (ks.length - last)).length c1, .slice a2 (ks.drop (ks.length - last)).length c2]) ∧ ∀ V, IsA V ko kc ks → IsA V a1 c1 (ks.take (ks.length - last)) ∧ IsA V a2 c2 (ks.drop (ks.length - last)) := by
  have HK : Hid (IsA w ko kc ks) := hk
  obtain ⟨k1, k2, k3⟩ := hk
  rw [List.length_take, List.length_drop]
  have HM : Hid (∀ a, a = ks.length - last → IsA w ko kc (ks.take a)) := fun a ha => isa_take HK.out a
  obtain ⟨m, hm⟩ : ∃ m, m = ks.length := ⟨_, rfl⟩
  obtain ⟨a, ha⟩ : ∃ a, a = m - last := ⟨_, rfl⟩
  rw [← hm] at k1 k3 ⊢
  have hmin : min a m = a := by omega
  rw [← ha, hmin]
  have hmx : max ((m : Int) - (last : Int)) 0 = (a : Int) := by omega
  have hwr : IntKind.i64.wrap ((m : Int) - (last : Int)) = (m : Int) - (last : Int) := by simp [IntKind.wrap, IntKind.bits, IntKind.signed]; omega
  have ham : a ≤ m := by omega
  have HH : Hid (m = ks.length ∧ a = m - last) := ⟨hm, ha⟩
  clear hm ha hmin HM
  have c3 := cells3'
  go_enter Tryz.func89, Tryz.ntmps89
  go_wp2
  go_quiet (fail)
  obtain ⟨a2, h2⟩ : ∃ a2, a2 = (if kc = a then ko else Option.map (fun x => x.add a) ko) := ⟨_, rfl⟩
  rw [← h2]
  have H2 : Hid (a2 = (if kc = a then ko else Option.map (fun x => x.add a) ko)) := h2
  clear h2
  go_wp2
  go_ret2
  refine ⟨⟨nq, rfl⟩, ko, kc, a2, kc - a, rfl, fun V hV => ⟨isa_take hV a, ?_⟩⟩
  obtain ⟨_, _, v3⟩ := hV
  obtain ⟨g1, g2⟩ := HH.out
  refine ⟨by rw [List.length_drop]; omega, by omega, fun hl => ?_⟩
  rw [List.length_drop] at hl
  obtain ⟨g, o, e1, e2⟩ := v3 (by omega)
  refine ⟨g, o + a, ?_, fun j y hy => ?_⟩
  · rw [H2.out, if_neg (by omega), e1]
    simp [Addr.add_lit]
  · rw [List.getElem?_drop] at hy
    rw [Nat.add_assoc]
    exact e2 _ _ hy
theorem PrnAt.drew {B b : Nat} {nd p : Value} {bs : List Value} {w : World} (h : PrnAt B b nd p bs w) (n : Nat) : PrnAt B b nd p bs (w.drewN n) := by
  obtain ⟨hB, v, hb, hown, hne⟩ := h
  exact ⟨hB, v, hb, hown.kept (row := some b) ⟨rfl, rfl, rfl, Nat.le_refl _, fun _ _ _ => rfl⟩ (Or.inr hne), hne⟩
theorem St.drew {w0 W : World} {b : Nat} {nd : Value} {t : List UInt8} (h : St w0 b nd t W) (n : Nat) : St w0 b nd t (W.drewN n) :=
  ⟨⟨h.pr.1.imp (fun k => k.drew n) (fun k => k.drew n), h.pr.2⟩, h.bl.trans ((drew_below W n).mono h.bl.size)⟩
/-- A function's parts. -/
def fnA (x : Nd) (a1 : Option Addr) (c1 : Nat) : List Pt := [.s ⟨#[102, 110]⟩, .s x.nm, .s ⟨#[40]⟩, .li a1 c1 (x.ks.take (x.ks.length - 2)), .s ⟨#[41]⟩]
def fnT (l : List Nd) (nt : Nat → Tks) (x : Nd) (q0 q1 : Nat) : Tks := psT nt l (fnA x none 0) ++ ((if kdK l q0 = 12 then [] else [45, 62] :: nt q0) ++ nt q1)
theorem fnA_t (l : List Nd) (nt : Nat → Tks) (x : Nd) (a1 a2 : Option Addr) (c1 c2 : Nat) : psT nt l (fnA x a1 c1) = psT nt l (fnA x a2 c2) := rfl
set_option maxRecDepth 100000 in
set_option maxHeartbeats 4000000 in
theorem item_2 (w0 : World) (b : Nat) (ao : Option Addr) (c : Nat) (l : List Nd) (nt : Nat → Tks) (K : Nat) (hl : NdA w0 ao c l) (hK : K ≤ l.length) (hP : Puts w0 b (.slice ao l.length c) l nt K 3) (x : Nd) (hk : x.k = 2) (hks : IsA w0 x.ka x.kc x.ks) (hin : ∀ y ∈ x.ks, 0 ≤ y ∧ y < K) (q0 q1 : Nat) (h2 : 2 ≤ x.ks.length) (hq0 : x.ks[x.ks.length - 2]? = some (q0 : Int)) (hq1 : x.ks[x.ks.length - 1]? = some (q1 : Int)) (t : List UInt8) (W : World) (hS : St w0 b (.slice ao l.length c) t W) (hlen : (run t (fnT l nt x q0 q1)).length ≤ 140737488355328) : Calls Tryz.prog 73 #[.pointer (some ⟨b, 0, none⟩), nda x] W fun e w' => e = .returned (.tuple #[]) ∧ PoS w0 b (.slice ao l.length c) (run t (fnT l nt x q0 q1)) W w' := by
  have hq0K : q0 < K := by have := hin _ (List.mem_of_getElem? hq0); omega
  have hq1K : q1 < K := by have := hin _ (List.mem_of_getElem? hq1); omega
  obtain ⟨n, hn⟩ : ∃ n, n = l.length := ⟨_, rfl⟩
  rw [← hn] at hP hS hK ⊢
  have e1 : run t (fnT l nt x q0 q1) = run (run (run t (psT nt l (fnA x none 0))) (if kdK l q0 = 12 then [] else [45, 62] :: nt q0)) (nt q1) := by unfold fnT; rw [run_app, run_app]
  rw [e1] at hlen ⊢
  obtain ⟨T1, hT1⟩ : ∃ T1, T1 = run t (psT nt l (fnA x none 0)) := ⟨_, rfl⟩
  rw [← hT1] at hlen ⊢
  obtain ⟨T2, hT2⟩ : ∃ T2, T2 = run T1 (if kdK l q0 = 12 then [] else [45, 62] :: nt q0) := ⟨_, rfl⟩
  rw [← hT2] at hlen ⊢
  have hlen2 : T2.length ≤ 140737488355328 := Nat.le_trans (run_le _ _) hlen
  have hlen1 : T1.length ≤ 140737488355328 := Nat.le_trans (run_le _ _) (by rw [← hT2]; exact hlen2)
  have HA : Hid (∀ a1 c1, IsA w0 a1 c1 (x.ks.take (x.ks.length - 2)) → ∀ W g, g = W.heap.size → St w0 b (.slice ao n c) t W → Calls Tryz.prog 26 #[.pointer (some ⟨b, 0, none⟩), .slice (some ⟨g, 0, none⟩) 5 5] (W.alloc (.cells #[.iface 9 (.string ⟨#[102, 110]⟩), .iface 9 (.string x.nm), .iface 9 (.string ⟨#[40]⟩), .iface 88 (.slice a1 (x.ks.take (x.ks.length - 2)).length c1), .iface 9 (.string ⟨#[41]⟩)] 20)) fun e w' => e = .returned (.tuple #[]) ∧ PoS w0 b (.slice ao n c) T1 W w') := fun a1 c1 hI W g hg hW => by
    subst hg
    rw [hT1, fnA_t l nt x none a1 0 c1] at *
    exact put_at hP (fnA x a1 c1) (by simp [fnA]) (fun p hp => by simp [fnA] at hp; rcases hp with rfl | rfl | rfl | rfl | rfl <;> first | exact ⟨by simp [Pt.rk], hI, fun y hy => hin y (List.mem_of_mem_take hy)⟩ | exact ⟨by simp [Pt.rk], trivial⟩) 5 rfl _ rfl t W hW hlen1
  have HB : Hid (kdK l q0 ≠ 12 → ∀ W g, g = W.heap.size → St w0 b (.slice ao n c) T1 W → Calls Tryz.prog 26 #[.pointer (some ⟨b, 0, none⟩), .slice (some ⟨g, 0, none⟩) 2 2] (W.alloc (.cells #[.iface 9 (.string ⟨#[45, 62]⟩), .iface 3 (.int .i64 q0)] 20)) fun e w' => e = .returned (.tuple #[]) ∧ PoS w0 b (.slice ao n c) T2 W w') := fun h12 W g hg hW => by
    subst hg
    have e2 : T2 = run T1 (psT nt l [.s ⟨#[45, 62]⟩, .n q0]) := by rw [hT2, if_neg h12]; simp [psT, Pt.tk]
    rw [e2]
    exact put_at hP [.s ⟨#[45, 62]⟩, .n q0] (by simp) (fun p hp => by simp at hp; rcases hp with rfl | rfl <;> first | exact ⟨by simp [Pt.rk], hq0K⟩ | exact ⟨by simp [Pt.rk], trivial⟩) 2 rfl _ rfl T1 W hW (by rw [← e2]; exact hlen2)
  have HB' : Hid (kdK l q0 = 12 → T2 = T1) := fun h12 => by rw [hT2, if_pos h12]; rfl
  have HC : Hid (∀ W g, g = W.heap.size → St w0 b (.slice ao n c) T2 W → Calls Tryz.prog 26 #[.pointer (some ⟨b, 0, none⟩), .slice (some ⟨g, 0, none⟩) 1 1] (W.alloc (.cells #[.iface 3 (.int .i64 q1)] 20)) fun e w' => e = .returned (.tuple #[]) ∧ PoS w0 b (.slice ao n c) (run T2 (nt q1)) W w') := fun W g hg hW => by
    subst hg
    have e2 : run T2 (nt q1) = run T2 (psT nt l [.n q1]) := by simp [psT, Pt.tk]
    rw [e2] at hlen ⊢
    exact put_at hP [.n q1] (by simp) (fun p hp => by simp at hp; subst hp; exact ⟨by simp [Pt.rk], hq1K⟩) 1 rfl _ rfl T2 W hW hlen
  have HU : Hid (∀ W, Below w0.heap.size w0 W → Calls Tryz.prog 89 #[.slice x.ka x.ks.length x.kc, .int .i64 2] W fun e w' => (∃ n, w' = W.drewN n) ∧ ∃ a1 c1 a2 c2, e = .returned (.tuple #[.slice a1 (x.ks.take (x.ks.length - 2)).length c1, .slice a2 (x.ks.drop (x.ks.length - 2)).length c2]) ∧ IsA w0 a1 c1 (x.ks.take (x.ks.length - 2)) ∧ IsA w0 a2 c2 (x.ks.drop (x.ks.length - 2))) := fun W hW => (cut89a x.ks x.ka x.kc 2 W (hks.below hW) (by decide)).mono fun e w' ⟨h1, a1, c1, a2, c2, h2, h3⟩ => ⟨h1, a1, c1, a2, c2, h2, h3 w0 hks⟩
  generalize run T2 (nt q1) = T3 at *
  clear hT1 hT2 e1 hlen hlen1 hlen2 hP
  have hdl : (x.ks.drop (x.ks.length - 2)).length = 2 := by rw [List.length_drop]; omega
  have hd0 : (x.ks.drop (x.ks.length - 2))[0]? = some (q0 : Int) := by rw [List.getElem?_drop]; exact hq0
  have hd1 : (x.ks.drop (x.ks.length - 2))[1]? = some (q1 : Int) := by rw [List.getElem?_drop, show x.ks.length - 2 + 1 = x.ks.length - 1 by omega]; exact hq1
  rw [hdl] at HU
  have HD : Hid (∀ a2 c2 W, IsA w0 a2 c2 (x.ks.drop (x.ks.length - 2)) → Below w0.heap.size w0 W → ∃ g o, a2 = some ⟨g, o, none⟩ ∧ 2 ≤ c2 ∧ c2 ≤ 9223372036854775807 ∧ W.cell? ⟨g, o, none⟩ = some (.int .i64 q0) ∧ W.cell? ⟨g, o + 1, none⟩ = some (.int .i64 q1)) := fun a2 c2 W hI hW => by
    obtain ⟨i1, i2, i3⟩ := hI.below hW
    obtain ⟨g, o, e1, e2⟩ := i3 (by omega)
    exact ⟨g, o, e1, by omega, i2, e2 0 _ hd0, e2 1 _ hd1⟩
  obtain ⟨y, hy⟩ : ∃ y, l[q0]? = some y := ⟨_, List.getElem?_eq_getElem (by omega)⟩
  have hkd : kdK l (q0 : Int) = y.k := by unfold kdK; rw [Int.toNat_natCast, hy]
  rw [hkd] at HB HB'
  obtain ⟨gn, on, rfl, _⟩ := hl.2.2.2 (by omega)
  have HY : Hid (∀ W, Below w0.heap.size w0 W → W.cell? ⟨gn, on + q0 * 6, none⟩ = some (.int .i64 y.k)) := fun W hW => by
    obtain ⟨_, _, _, i4⟩ := hl.below hW
    obtain ⟨g, o, e1, e2⟩ := i4 (by omega)
    cases e1
    exact (nd_cells e2 hy).1
  have hn1 : n ≤ c := by rw [hn]; exact hl.1
  have hn2 := hl.2.1
  have hq0n : q0 < n := by omega
  have hq0I : (q0 : Int) < (n : Int) := by omega
  have hx1 := hks.1
  have hx2 := hks.2.1
  have HS : Hid (St w0 b (.slice (some ⟨gn, on, none⟩) n c) t W) := hS
  have c53 := cells53
  have c3 := cells3'
  generalize y.k = Y at *
  clear hd0 hd1 hdl hy hkd hl hks hin hq0 hq1 hn hS hK
  unfold nda
  obtain ⟨xk, xn, xv, xa, xc, xs, xf, xe⟩ := x
  simp only at *
  subst hk
  generalize (xs.take (xs.length - 2)).length = p1 at *
  generalize hml : xs.length = m at *
  clear hml
  go_enter Tryz.func73, Tryz.ntmps73
  go_wp2_with fail
  refine (HU.out _ (HS.out.alloc _).bl).mono ?_
  rintro e w1 ⟨⟨nd1, hw⟩, a1, c1, a2, c2, rfl, hI1, hI2⟩
  have s1 : St w0 b (.slice (some ⟨gn, on, none⟩) n c) t w1 := by rw [hw]; exact (HS.out.alloc _).drew nd1
  have k1 : Kept b W w1 := by rw [hw]; exact (Kept.refl b W).alloc _
  have d1 : w1.cell? ⟨W.heap.size, 1, none⟩ = some (.string xn) := by
    rw [hw]
    show (W.alloc _).cell? ⟨W.heap.size, 1, none⟩ = _
    simp
  have HS1 : Hid (St w0 b (.slice (some ⟨gn, on, none⟩) n c) t w1 ∧ Kept b W w1) := ⟨s1, k1⟩
  clear hw s1 k1 HS HU
  have HI1 : Hid (IsA w0 a1 c1 (xs.take (m - 2))) := hI1
  have HI2 : Hid (IsA w0 a2 c2 (xs.drop (m - 2))) := hI2
  clear hI1 hI2
  go_wp2_with fail
  refine (HA.out a1 c1 HI1.out w1 _ rfl HS1.out.1).mono ?_
  rintro e w2 ⟨rfl, hE⟩
  have HS2 : Hid (St w0 b (.slice (some ⟨gn, on, none⟩) n c) T1 w2 ∧ Kept b W w2) := ⟨hE.1, HS1.out.2.trans hE.2⟩
  clear hE HA d1 HS1
  obtain ⟨g2, o2, rfl, hc2a, hc2b, r0, r1⟩ := HD.out a2 c2 w2 HI2.out HS2.out.1.bl
  have z0 := HY.out w2 HS2.out.1.bl
  have hc0 := HS2.out.1.cell
  by_cases hY : Y = 12
  · have hT := HB'.out hY
    have HS3 : Hid (St w0 b (.slice (some ⟨gn, on, none⟩) n c) T2 w2 ∧ Kept b W w2) := by rw [hT]; exact HS2.out
    clear HB HB' hT HS2
    subst hY
    go_wp2
    go_quiet (fail)
    have HS4 : Hid (St w0 b (.slice (some ⟨gn, on, none⟩) n c) T2 (w2.drewN nq) ∧ Kept b W (w2.drewN nq)) := ⟨HS3.out.1.drew _, HS3.out.2.trans (fun _ _ _ _ _ _ _ => rfl)⟩
    replace r0 : (w2.drewN nq).cell? ⟨g2, o2, none⟩ = some (.int .i64 q0) := r0
    replace r1 : (w2.drewN nq).cell? ⟨g2, o2 + 1, none⟩ = some (.int .i64 q1) := r1
    clear HS3 z0 hc0
    generalize w2.drewN nq = wq at *
    go_wp2_with fail
    refine (HC.out wq _ rfl HS4.out.1).mono ?_
    rintro e w' ⟨rfl, hE⟩
    have HE : Hid (PoS w0 b (.slice (some ⟨gn, on, none⟩) n c) T3 W w') := ⟨hE.1, HS4.out.2.trans hE.2⟩
    clear hE
    go_wp2
    go_end0
    exact ⟨rfl, HE.out⟩
  · have hYb : (Y == 12) = false := by simpa using hY
    have hYn : (Y != 12) = true := by simpa using hY
    have HBB : Hid (∀ W g, g = W.heap.size → St w0 b (.slice (some ⟨gn, on, none⟩) n c) T1 W → Calls Tryz.prog 26 #[.pointer (some ⟨b, 0, none⟩), .slice (some ⟨g, 0, none⟩) 2 2] (W.alloc (.cells #[.iface 9 (.string ⟨#[45, 62]⟩), .iface 3 (.int .i64 q0)] 20)) fun e w' => e = .returned (.tuple #[]) ∧ PoS w0 b (.slice (some ⟨gn, on, none⟩) n c) T2 W w') := HB.out hY
    clear HB HB' hY
    go_wp2
    go_quiet (fail)
    have HS4 : Hid (St w0 b (.slice (some ⟨gn, on, none⟩) n c) T1 (w2.drewN nq) ∧ Kept b W (w2.drewN nq)) := ⟨HS2.out.1.drew _, HS2.out.2.trans (fun _ _ _ _ _ _ _ => rfl)⟩
    replace r0 : (w2.drewN nq).cell? ⟨g2, o2, none⟩ = some (.int .i64 q0) := r0
    replace r1 : (w2.drewN nq).cell? ⟨g2, o2 + 1, none⟩ = some (.int .i64 q1) := r1
    clear HS2 z0 hc0
    generalize w2.drewN nq = wq at *
    go_wp2_with fail
    refine (HBB.out wq _ rfl HS4.out.1).mono ?_
    rintro e w3 ⟨rfl, hE⟩
    have HS3 : Hid (St w0 b (.slice (some ⟨gn, on, none⟩) n c) T2 w3 ∧ Kept b W w3) := ⟨hE.1, HS4.out.2.trans hE.2⟩
    clear hE HBB r0 r1
    obtain ⟨g3, o3, he, _, _, r0, r1⟩ := HD.out _ c2 w3 HI2.out HS3.out.1.bl
    cases he
    go_wp2_with fail
    refine (HC.out w3 _ rfl HS3.out.1).mono ?_
    rintro e w' ⟨rfl, hE⟩
    have HE : Hid (PoS w0 b (.slice (some ⟨gn, on, none⟩) n c) T3 W w') := ⟨hE.1, HS3.out.2.trans hE.2⟩
    clear hE
    go_wp2
    go_end0
    exact ⟨rfl, HE.out⟩
end
section
open Go.RowKit Go.Shelf
theorem cells5 : Tryz.prog.cellsOf 5 = 1 := by kernel_rfl
set_option maxRecDepth 100000 in
set_option maxHeartbeats 4000000 in
theorem string27 (B b : Nat) (nd : Value) (l : List UInt8) (w : World) (h : Prn B b nd (cT l) w) (h0 : l ≠ []) : Calls Tryz.prog 27 #[.pointer (some ⟨b, 1, none⟩)] w fun e w' => e = .returned (.string ⟨l.toArray⟩) ∧ Below B w w' := by
  obtain ⟨p, hB, v, hbk, hown, hne⟩ : ∃ p, PrnAt B b nd p (cT l) w := by
    rcases h with h | h
    · exact ⟨_, h⟩
    · exact ⟨_, h⟩
  have hl0 : l.length ≠ 0 := by simpa using h0
  rw [cT_len] at hown
  obtain ⟨g, cap, cur, rfl, hbg, hg, hnc, hcm, hcs, htake⟩ : ∃ g cap cur, v = .slice (some ⟨g, 0, none⟩) l.length cap ∧ B ≤ g ∧ w.heap[g]? = some (.cells cur 5 (0, 0)) ∧ l.length ≤ cap ∧ cap ≤ maxLen ∧ cur.size = cap * 1 ∧ cur.toList.take (l.length * 1) = cT l := by
    rcases hown.2 with ⟨_, hz⟩ | ⟨g, cap, cur, hv, r⟩
    · exact absurd hz hl0
    · exact ⟨g, cap, cur, hv, r⟩
  have c1 : w.drew.cell? ⟨b, 2, none⟩ = some (.slice (some ⟨g, 0, none⟩) l.length cap) := by
    have : w.drew.heap[b]? = some (.cells #[nd, p, .slice (some ⟨g, 0, none⟩) l.length cap] 60 (0, 0)) := hbk
    rw [Lib.cell_of_heap this]; rfl
  have hSD : (Builtin.unsafeSliceData_ #[56] 93 #[.slice (some ⟨g, 0, none⟩) l.length cap]).run Tryz.prog w.drew = .ok (.pointer (some ⟨g, 0, none⟩)) w.drew :=
    Lib.run_unsafeSliceData_row _ _ _ _ _ _ (by omega)
  have hUS : (Builtin.unsafeString_ #[93, 3] 9 #[.pointer (some ⟨g, 0, none⟩), .int .i64 l.length]).run Tryz.prog w.drew = .ok (.string ⟨l.toArray⟩) (w.drew.freeze ⟨g, 0, none⟩ l.length) := by
    refine Lib.run_unsafeString_row w.drew 93 3 9 5 Tryz.underlying93 cells5 g cur.size (by have hg' : w.drew.heap[g]? = some (.cells cur 5 (0, 0)) := hg; simp [World.shape?, hg']) l h0 (by omega) (by unfold maxLen at hcm; omega) ?_
    intro j x hx
    have := hown.cells (g := g) rfl j (.int .u8 x.toNat) (by simp [cT, hx])
    exact this
  have mixed : Tryz.prog.follows Departure.mixedOrders = true := by kernel_rfl
  clear h hown hne htake hbk hg hcs hcm
  go_enter Tryz.func27, Tryz.ntmps27
  go_wp2
  go_region_o
  all_goals (go_wp2; go_ret; exact ⟨rfl, Lib.below_freeze (Below.drew (Below.refl B w)) (p := ⟨g, 0, none⟩) hbg _⟩)
end
section
open Go.RowKit Go.Shelf
set_option maxRecDepth 100000 in
set_option maxHeartbeats 4000000 in
theorem check11 (l : List Nd) (ao : Option Addr) (c : Nat) (w : World) (hT : Tm w) (hl : NdA w ao c l) : Calls Tryz.prog 11 #[.agg #[.slice ao l.length c]] w fun e w' => e = .returned (.int .i64 (if rightB l = true then 0 else 3)) ∧ Below w.heap.size w w' := by
  have H30 : Hid (∀ W, Below w.heap.size w W → Calls Tryz.prog 30 #[.slice ao l.length c] W fun e w' => e = .returned (.bool (rightB l)) ∧ Below W.heap.size W w') := fun W hW => right30 l ao c W (hT.below hW) (hl.below hW)
  have h1 := hl.1
  have h2 := hl.2.1
  clear hT hl
  generalize l.length = n at *
  cases hr : rightB l with
  | true =>
    rw [hr] at H30
    rw [if_pos rfl]
    clear hr
    go_enter Tryz.func11, Tryz.ntmps11
    go_wp2_with fail
    refine (H30.out _ (below_cells _ _ _)).mono ?_
    rintro e w1 ⟨rfl, hb⟩
    have HB : Hid (Below w.heap.size w w1) := (below_cells w _ _).trans (hb.mono (by simp))
    clear hb
    go_wp2
    go_ret
    exact ⟨rfl, HB.out⟩
  | false =>
    rw [hr] at H30
    rw [if_neg (by simp)]
    clear hr
    go_enter Tryz.func11, Tryz.ntmps11
    go_wp2_with fail
    refine (H30.out _ (below_cells _ _ _)).mono ?_
    rintro e w1 ⟨rfl, hb⟩
    have HB : Hid (Below w.heap.size w w1) := (below_cells w _ _).trans (hb.mono (by simp))
    clear hb
    go_wp2
    go_ret
    exact ⟨rfl, HB.out⟩
theorem st_new (w : World) (nd : Value) : St w w.heap.size nd [] (w.alloc (.cells #[nd, .pointer none, .slice none 0 0] 60)) :=
  ⟨⟨.inl ⟨Nat.le_refl _, .slice none 0 0, Go.heap_alloc_new w _, World.ownsRow_nil _ _ _ _, by simp [Value.ownBlock]⟩, by simp⟩, below_cells w _ _⟩
set_option maxRecDepth 100000 in
set_option maxHeartbeats 4000000 in
theorem print_right (l : List Nd) (ao : Option Addr) (c : Nat) (w : World) (hT : Tm w) (hl : NdA w ao c l) (hr : rightB l = true) (h0 : 1 ≤ l.length) (nt : Nat → Tks) (hN : ∀ w0 b, NdA w0 ao c l → ∀ k, k < l.length → NodeC w0 b (.slice ao l.length c) l nt k) (T : List UInt8) (hTx : run [] (nt (l.length - 1)) = T) (hT0 : T ≠ []) (hTl : T.length ≤ 140737488355328) : Calls Tryz.prog 9 #[.agg #[.slice ao l.length c]] w fun e w' => e = .returned (.tuple #[.string ⟨T.toArray⟩, .int .i64 0]) ∧ Below w.heap.size w w' := by
  have H11 : Hid (∀ W, Below w.heap.size w W → Calls Tryz.prog 11 #[.agg #[.slice ao l.length c]] W fun e w' => e = .returned (.int .i64 0) ∧ Below W.heap.size W w') := fun W hW => by
    have t := check11 l ao c W (hT.below hW) (hl.below hW)
    rw [if_pos hr] at t
    exact t
  have H26 : Hid (∀ W0 W g, g = W.heap.size → Below w.heap.size w W0 → St W0 W0.heap.size (.slice ao l.length c) [] W → Calls Tryz.prog 26 #[.pointer (some ⟨W0.heap.size, 0, none⟩), .slice (some ⟨g, 0, none⟩) 1 1] (W.alloc (.cells #[.iface 3 (.int .i64 ((l.length - 1 : Nat) : Int))] 20)) fun e w' => e = .returned (.tuple #[]) ∧ PoS W0 W0.heap.size (.slice ao l.length c) T W w') := fun W0 W g hg hb hW => by
    subst hg
    have hlW := hl.below hb
    have hP := puts_all W0 W0.heap.size ao c l nt l.length hlW (Nat.le_refl _) (hN W0 W0.heap.size hlW)
    have e : psT nt l [.n (l.length - 1)] = nt (l.length - 1) := by simp [psT, Pt.tk]
    have t := put_at hP [.n (l.length - 1)] (by simp) (fun p hp => by simp at hp; subst hp; exact ⟨by simp [Pt.rk], by show l.length - 1 < l.length; omega⟩) 1 rfl _ rfl [] W hW (by rw [e, hTx]; exact hTl)
    rw [e, hTx] at t
    exact t
  have H27 : Hid (∀ W0 W, St W0 W0.heap.size (.slice ao l.length c) T W → Calls Tryz.prog 27 #[.pointer (some ⟨W0.heap.size, 1, none⟩)] W fun e w' => e = .returned (.string ⟨T.toArray⟩) ∧ Below W0.heap.size W w') := fun W0 W hW => string27 _ _ _ T W hW.pr.1 hT0
  have h1 := hl.1
  have h2 := hl.2.1
  obtain ⟨n, hn⟩ : ∃ n, n = l.length := ⟨_, rfl⟩
  rw [← hn] at H11 H26 H27 h1 h0 ⊢
  obtain ⟨m, hm⟩ : ∃ m, m = n - 1 := ⟨_, rfl⟩
  rw [← hm] at H26
  have hm1 : IntKind.i64.wrap ((n : Int) - 1) = (m : Int) := by simp [IntKind.wrap, IntKind.bits, IntKind.signed]; omega
  have hm2 : (n : Int) - 1 = (m : Int) := by omega
  clear hT hl hr hN hTx hT0 hTl hn hm
  go_enter Tryz.func9, Tryz.ntmps9
  go_wp2_with fail
  refine (H11.out _ (below_cells _ _ _)).mono ?_
  rintro e w1 ⟨rfl, hb⟩
  have HB1 : Hid (Below w.heap.size w w1) := (below_cells w _ _).trans (hb.mono (by simp))
  have d0 := (bcell hb).1 w.heap.size 0 (by simp)
  simp at d0
  have hlt : w.heap.size < w1.heap.size := World.block_lt_of_cell? _ _ d0
  have d1 : (w1.alloc (.cells #[.slice ao n c, .pointer none, .slice none 0 0] 60)).cell? ⟨w.heap.size, 0, none⟩ = some (.slice ao n c) := by
    rw [← d0]
    exact (bcell (below_cells w1 _ _)).1 w.heap.size 0 hlt
  clear hb H11
  have HZ : Hid (w.heap.size < w1.heap.size) := hlt
  clear hlt
  go_wp2_with fail
  refine (H26.out w1 _ _ (by simp) HB1.out (st_new w1 _)).mono ?_
  rintro e w2 ⟨rfl, hE⟩
  have HS2 : Hid (St w1 w1.heap.size (.slice ao n c) T w2) := hE.1
  clear hE H26 d0 d1
  go_wp2_with fail
  refine (H27.out w1 w2 HS2.out).mono ?_
  rintro e w3 ⟨rfl, hb⟩
  have HB3 : Hid (Below w.heap.size w w3) := HB1.out.trans ((HS2.out.bl.trans hb).mono (Nat.le_of_lt HZ.out))
  clear hb
  go_wp2
  go_ret2
  exact ⟨rfl, HB3.out⟩
set_option maxRecDepth 100000 in
set_option maxHeartbeats 4000000 in
theorem depth_right (l : List Nd) (ao : Option Addr) (c : Nat) (w : World) (hT : Tm w) (hl : NdA w ao c l) (hr : rightB l = true) (p : List Int) (hp : parR l = some p) : Calls Tryz.prog 23 #[.agg #[.slice ao l.length c]] w fun e w' => e = .returned (.tuple #[.int .i64 (Lib.maxOf (depR p)), .int .i64 0]) ∧ Below w.heap.size w w' := by
  have h01 : 1 ≤ l.length ∧ l.length ≤ 20000 := by
    unfold rightB at hr
    split at hr
    · cases hr
    · omega
  have hcn : (p.take (l.length - 1)).contains (-1) = false := by
    unfold rightB at hr
    split at hr
    · cases hr
    · rw [hp] at hr
      simp only [Bool.and_eq_true] at hr
      simpa using hr.1
  have H11 : Hid (∀ W, Below w.heap.size w W → Calls Tryz.prog 11 #[.agg #[.slice ao l.length c]] W fun e w' => e = .returned (.int .i64 0) ∧ Below W.heap.size W w') := fun W hW => by
    have t := check11 l ao c W (hT.below hW) (hl.below hW)
    rw [if_pos hr] at t
    exact t
  have H41 : Hid (∀ W, Below w.heap.size w W → Calls Tryz.prog 41 #[.slice ao l.length c] W fun e w' => Below W.heap.size W w' ∧ ∃ g, W.heap.size ≤ g ∧ Blk w' g p ∧ e = .returned (.tuple #[.slice (some ⟨g, 0, none⟩) l.length l.length, .bool true])) := fun W hW => by
    refine (parents41 l ao c W (hl.below hW) h01.1 h01.2).mono ?_
    rintro e w' ⟨h1, h2⟩
    rw [hp] at h2
    obtain ⟨g, g1, g2, g3, g4⟩ := h2
    rw [hcn] at g4
    exact ⟨h1, g, g1, g3, g4⟩
  have H43 : Hid (∀ W g, Blk W g p → Calls Tryz.prog 43 #[.slice (some ⟨g, 0, none⟩) l.length l.length] W fun e w' => e = .returned (.int .i64 (Lib.maxOf (depR p))) ∧ Below W.heap.size W w') := fun W g hg => depth43 p g l.length W hg (parR_some hp).1 h01.1 h01.2 (ups_of hp hcn)
  have h1 := hl.1
  have h2 := hl.2.1
  have h3 := h01.2
  generalize l.length = n at *
  generalize Lib.maxOf (depR p) = D at *
  clear hT hl hr hp hcn h01
  go_enter Tryz.func23, Tryz.ntmps23
  go_wp2_with fail
  refine (H11.out _ (below_cells _ _ _)).mono ?_
  rintro e w1 ⟨rfl, hb⟩
  have HB1 : Hid (Below w.heap.size w w1) := (below_cells w _ _).trans (hb.mono (by simp))
  have d0 := (bcell hb).1 w.heap.size 0 (by simp)
  simp at d0
  clear hb H11
  go_wp2_with fail
  refine (H41.out _ HB1.out).mono ?_
  rintro e w2 ⟨hb, g, hg, hbk, rfl⟩
  have HB2 : Hid (Below w.heap.size w w2) := HB1.out.trans (hb.mono HB1.out.size)
  have HK : Hid (Blk w2 g p) := hbk
  clear hb hbk hg d0
  go_wp2_with fail
  refine (H43.out _ _ HK.out).mono ?_
  rintro e w3 ⟨rfl, hb⟩
  have HB3 : Hid (Below w.heap.size w w3) := HB2.out.trans (hb.mono HB2.out.size)
  clear hb
  go_wp2
  go_ret2
  exact ⟨rfl, HB3.out⟩
end
end Go.Proofs.YtkkmeogehapjoaaGreatDoor
