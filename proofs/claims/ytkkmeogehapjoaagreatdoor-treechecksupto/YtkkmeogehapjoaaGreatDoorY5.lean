/- Parts, put one behind the other. -/
import Derived.Test.YtkkmeogehapjoaaGreatDoorY4
namespace Go.Proofs.YtkkmeogehapjoaaGreatDoor
open Go.RowKit Go.Shelf
/-- How deep a part nests; what is asked of one. -/
def Pt.rk : Pt → Nat
  | .s _ => 0
  | .n _ => 0
  | .pa _ _ _ => 2
  | _ => 1
def Pt.ok (w0 : World) (K : Nat) : Pt → Prop
  | .s _ => True
  | .n k => k < K
  | .ea ao c ks => IsA w0 ao c ks ∧ ∀ y ∈ ks, 0 ≤ y ∧ y < K
  | .li ao c ks => IsA w0 ao c ks ∧ ∀ y ∈ ks, 0 ≤ y ∧ y < K
  | .pa ao c ks => IsA w0 ao c ks ∧ ∀ y ∈ ks, 0 ≤ y ∧ y < K
  | .op k => k < K
  | .ow k => k < K
def Puts (w0 : World) (b : Nat) (nd : Value) (l : List Nd) (nt : Nat → Tks) (K r : Nat) : Prop := ∀ ps : List Pt, (0 < ps.length ∧ ps.length ≤ 100) → (∀ p ∈ ps, p.rk < r ∧ p.ok w0 K) → PutC w0 b nd l nt ps
theorem St.ne {w0 W : World} {b A : Nat} {nd : Value} {t : List UInt8} {cs : Array Value} (h : St w0 b nd t W) (hA : W.heap[A]? = some (.cells cs 20 (0, 0))) : A ≠ b := by
  rintro rfl
  rcases h.pr.1 with ⟨_, v, hbk, _⟩ | ⟨_, v, hbk, _⟩
  · rw [hA] at hbk
    simp at hbk
  · rw [hA] at hbk
    simp at hbk
set_option maxRecDepth 100000 in
set_option maxHeartbeats 8000000 in
theorem put_step (w0 : World) (b : Nat) (ao : Option Addr) (c : Nat) (l : List Nd) (nt : Nat → Tks) (K r : Nat) (hl : NdA w0 ao c l) (hK : K ≤ l.length) (hN : ∀ k, k < K → NodeC w0 b (.slice ao l.length c) l nt k) (hP : Puts w0 b (.slice ao l.length c) l nt K r) : Puts w0 b (.slice ao l.length c) l nt K (r + 1) := by
  intro ps hps hok t W A n hn hS hA hlen
  have HL : Hid (NdA w0 ao c l) := hl
  have HN : Hid (∀ k, k < K → NodeC w0 b (.slice ao l.length c) l nt k) := hN
  have HP : Hid (Puts w0 b (.slice ao l.length c) l nt K r) := hP
  have HO : Hid (∀ p ∈ ps, p.rk < r + 1 ∧ p.ok w0 K) := hok
  have HA : Hid (A ≠ b ∧ W.heap[A]? = some (.cells (ps.map Pt.v).toArray 20 (0, 0))) := ⟨hS.ne hA, hA⟩
  have hm1 := hl.1
  have hm2 := hl.2.1
  obtain ⟨m, hm⟩ : ∃ m, m = l.length := ⟨_, rfl⟩
  rw [← hm] at hm1 hK HN HP hS ⊢
  have HM : Hid (m = l.length ∧ n = ps.length) := ⟨hm, hn⟩
  have hn100 : n ≤ 100 := by omega
  generalize hT : run t (psT nt l ps) = T at *
  have HT : Hid (T.length ≤ 140737488355328) := hlen
  have HS : Hid (St w0 b (.slice ao m c) t W ∧ run t (psT nt l (ps.drop 0)) = T) := ⟨hS, hT⟩
  have c53 := cells53
  have c20 : Tryz.prog.cellsOf 20 = 1 := by kernel_rfl
  have c3 := cells3'
  clear hl hN hP hok hS hA hT hlen hm hn hps
  go_enter Tryz.func26, Tryz.ntmps26
  go_wp2
  go_loopw [19] (fun i wx => ∃ (k : Nat) (t' : List UInt8), k ≤ n ∧ i = .int .i64 k ∧ St w0 b (.slice ao m c) t' wx ∧ Kept b W wx ∧ run t' (psT nt l (ps.drop k)) = T) (fun i _ => n - (intOf i).toNat)
  case atStart => exact ⟨0, t, Nat.zero_le _, rfl, HS.out.1, Kept.refl _ _, HS.out.2⟩
  case round =>
    obtain ⟨k, t', hk, rfl, hSt, hKe, hR⟩ := hrel
    clear HS
    by_cases hlt : k < n
    · obtain ⟨p, hp⟩ : ∃ p, ps[k]? = some p := ⟨_, List.getElem?_eq_getElem (by have := HM.out.2; omega)⟩
      have hpo := HO.out p (List.mem_of_getElem? hp)
      have hAw : wr.heap[A]? = some (.cells (ps.map Pt.v).toArray 20 (0, 0)) := (hKe A _ _ _ HA.out.2 (by decide) HA.out.1).trans HA.out.2
      have a0 : wr.cell? ⟨A, k, none⟩ = some p.v := by
        rw [Lib.cell_of_heap hAw k]
        simp [hp]
      have hdk : ps.drop k = p :: ps.drop (k + 1) := by
        obtain ⟨hk', rfl⟩ := List.getElem?_eq_some_iff.1 hp
        exact List.drop_eq_getElem_cons hk'
      rw [hdk] at hR
      have hR2 : run (run t' (p.tk nt l)) (psT nt l (ps.drop (k + 1))) = T := by rw [← hR, ← run_app]; rfl
      have hle : (run t' (p.tk nt l)).length ≤ 140737488355328 := Nat.le_trans (run_le _ _) (by rw [hR2]; exact HT.out)
      have HZ : Hid (∀ w', PoS w0 b (.slice ao m c) (run t' (p.tk nt l)) wr w' → ∃ (k' : Nat) (t'' : List UInt8), k' ≤ n ∧ Value.int .i64 ((k : Int) + 1) = .int .i64 k' ∧ St w0 b (.slice ao m c) t'' w' ∧ Kept b W w' ∧ run t'' (psT nt l (ps.drop k')) = T) := fun w' h => ⟨k + 1, _, by omega, by simp, h.1, hKe.trans h.2, hR2⟩
      have HSt : Hid (St w0 b (.slice ao m c) t' wr) := hSt
      have HLe : Hid ((run t' (p.tk nt l)).length ≤ 140737488355328) := hle
      clear hdk hR hR2 hle hSt hAw hKe HT HO HA hp
      cases p with
      | s x =>
        have H45 : Hid (Calls Tryz.prog 45 #[.pointer (some ⟨b, 0, none⟩), .string x] wr fun e w' => e = .returned (.tuple #[]) ∧ PoS w0 b (.slice ao m c) (run t' ((Pt.s x).tk nt l)) wr w') := token_st w0 b _ t' x wr HSt.out HLe.out
        replace a0 : wr.cell? ⟨A, k, none⟩ = some (.iface 9 (.string x)) := a0
        have q1 := ta_9_9
        generalize run t' ((Pt.s x).tk nt l) = T1 at *
        go_wp2_with fail
        refine H45.out.mono ?_
        rintro e w' ⟨rfl, hE⟩
        have HE : Hid _ := HZ.out _ hE
        clear hE
        go_wp2
        exact ⟨by simpa using HE.out, by simp [intOf]; omega⟩
      | n q =>
        have hq : q < K := hpo.2
        replace a0 : wr.cell? ⟨A, k, none⟩ = some (.iface 3 (.int .i64 q)) := a0
        obtain ⟨x, hx⟩ : ∃ x, l[q]? = some x := ⟨_, List.getElem?_eq_getElem (by have := HM.out.1; omega)⟩
        have H46 : Hid (Calls Tryz.prog 46 #[.pointer (some ⟨b, 0, none⟩), .agg #[.int .i64 x.k, .string x.nm, .int .i64 x.v, .slice x.ka x.ks.length x.kc, .int .i64 x.fr, .int .i64 x.en]] wr fun e w' => e = .returned (.tuple #[]) ∧ PoS w0 b (.slice ao m c) (run t' ((Pt.n q).tk nt l)) wr w') := HN.out q hq x t' wr hx HSt.out HLe.out
        have hc0 := HSt.out.cell
        have hlW := HL.out.below HSt.out.bl
        obtain ⟨gn, on, rfl, hnd⟩ := hlW.2.2.2 (by have := HM.out.1; omega)
        obtain ⟨b0, b1, b2, b3, b4, b5⟩ := nd_cells hnd hx
        have hqI : (q : Int) < (m : Int) := by omega
        have hqm : q < m := by omega
        have q0 := ta_3_9
        have q1 := ta_3_3
        clear hnd hlW hx hpo
        generalize run t' ((Pt.n q).tk nt l) = T1 at *
        obtain ⟨xk, xn, xv, xa, xc, xs, xf, xe⟩ := x
        simp only at *
        generalize xs.length = xl at *
        go_wp2_with fail
        refine H46.out.mono ?_
        rintro e w' ⟨rfl, hE⟩
        have HE : Hid _ := HZ.out _ hE
        clear hE
        go_wp2
        exact ⟨by simpa using HE.out, by simp [intOf]; omega⟩
      | ea eo ec ks =>
        obtain ⟨hka, hkk⟩ := hpo.2
        have hr : 1 ≤ r := by have := hpo.1; simp only [Pt.rk] at this; omega
        replace a0 : wr.cell? ⟨A, k, none⟩ = some (.iface 87 (.slice eo ks.length ec)) := a0
        have q0 := ta_87_9
        have q1 := ta_87_3
        have q2 := ta_87_87
        have hk1 := hka.1
        have hk2 := hka.2.1
        have HI : Hid (IsA w0 eo ec ks ∧ (∀ y ∈ ks, 0 ≤ y ∧ y < K)) := ⟨hka, hkk⟩
        have HPn : Hid (∀ q : Nat, q < K → PutC w0 b (.slice ao m c) l nt [.n q]) := fun q hq => HP.out [.n q] (by simp) (fun p hp => by simp at hp; subst hp; exact ⟨hr, hq⟩)
        have HR0 : Hid (run t' (seqT nt (ks.drop 0)) = run t' ((Pt.ea eo ec ks).tk nt l)) := rfl
        generalize run t' ((Pt.ea eo ec ks).tk nt l) = T1 at *
        obtain ⟨kl, hkl⟩ : ∃ kl, kl = ks.length := ⟨_, rfl⟩
        rw [← hkl] at a0 hk1
        have HKL : Hid (kl = ks.length) := hkl
        clear hka hkk hpo hkl
        go_wp2
        go_loopw [10, 47] (fun _ i wx => ∃ (j : Nat) (t2 : List UInt8), j ≤ kl ∧ i = .int .i64 j ∧ St w0 b (.slice ao m c) t2 wx ∧ Kept b wr wx ∧ run t2 (seqT nt (ks.drop j)) = T1) (fun _ i _ => kl - (intOf i).toNat)
        case atStart => exact ⟨0, t', Nat.zero_le _, rfl, HSt.out, Kept.refl _ _, HR0.out⟩
        case round =>
          obtain ⟨j, t2, hj, rfl, hS2, hK2, hR⟩ := hrel
          clear HR0
          by_cases hjl : j < kl
          · obtain ⟨y, hy⟩ : ∃ y, ks[j]? = some y := ⟨_, List.getElem?_eq_getElem (by have := HKL.out; omega)⟩
            obtain ⟨gk, ok, rfl, hkc⟩ := (HI.out.1.below hS2.bl).2.2 (by have := HKL.out; omega)
            have b0 := hkc j y hy
            obtain ⟨y0, y1⟩ := HI.out.2 y (List.mem_of_getElem? hy)
            obtain ⟨q, rfl⟩ : ∃ q : Nat, y = q := ⟨y.toNat, by omega⟩
            have hdj : ks.drop j = (q : Int) :: ks.drop (j + 1) := by
              obtain ⟨hk', e⟩ := List.getElem?_eq_some_iff.1 hy
              rw [← e]
              exact List.drop_eq_getElem_cons hk'
            rw [hdj] at hR
            have hR2 : run (run t2 (nt q)) (seqT nt (ks.drop (j + 1))) = T1 := by rw [← hR, ← run_app]; rfl
            have hle : (run t2 (nt q)).length ≤ 140737488355328 := Nat.le_trans (run_le _ _) (by rw [hR2]; exact HLe.out)
            have HC : Hid (Calls Tryz.prog 26 #[.pointer (some ⟨b, 0, none⟩), .slice (some ⟨wr.heap.size, 0, none⟩) 1 1] (wr.alloc (.cells #[.iface 3 (.int .i64 q)] 20)) fun e w' => e = .returned (.tuple #[]) ∧ PoS w0 b (.slice ao m c) (run t2 (nt q)) wr w') := by
              have e : psT nt l [.n q] = nt q := by simp [psT, Pt.tk]
              have t3 := HPn.out q (by omega) t2 (wr.alloc (.cells #[.iface 3 (.int .i64 q)] 20)) wr.heap.size 1 rfl (hS2.alloc _) (Go.heap_alloc_new wr _) (by rw [e]; exact hle)
              rw [e] at t3
              exact t3.mono fun e w' ⟨h1, h2⟩ => ⟨h1, h2.of_alloc⟩
            have HK2 : Hid (∀ w', PoS w0 b (.slice ao m c) (run t2 (nt q)) wr w' → St w0 b (.slice ao m c) (run t2 (nt q)) w' ∧ Kept b _ w') := fun w' h => ⟨h.1, Kept.trans hK2 h.2⟩
            have HR2 : Hid (run (run t2 (nt q)) (seqT nt (ks.drop (j + 1))) = T1) := hR2
            clear hkc hy hdj hR hR2 hle hS2 hK2 a0
            go_wp2_with fail
            refine HC.out.mono ?_
            rintro e w' ⟨rfl, hE⟩
            have HE : Hid _ := HK2.out _ hE
            clear hE
            go_wp2
            exact ⟨⟨j + 1, _, by omega, by go_num, HE.out.1, HE.out.2, HR2.out⟩, by simp [intOf]; omega⟩
          · obtain rfl : j = kl := by omega
            have hdj : ks.drop j = [] := List.drop_eq_nil_of_le (by have := HKL.out; omega)
            rw [hdj] at hR
            obtain rfl : t2 = T1 := hR
            have HE : Hid _ := HZ.out _ ⟨hS2, hK2⟩
            clear hdj hS2 hK2 a0
            go_wp2
            exact ⟨by simpa using HE.out, by simp [intOf]; omega⟩
      | li eo ec ks =>
        obtain ⟨hka, hkk⟩ := hpo.2
        have hr : 1 ≤ r := by have := hpo.1; simp only [Pt.rk] at this; omega
        replace a0 : wr.cell? ⟨A, k, none⟩ = some (.iface 88 (.slice eo ks.length ec)) := a0
        have q0 := ta_88_9
        have q1 := ta_88_3
        have q2 := ta_88_87
        have q3 := ta_88_88
        have hk1 := hka.1
        have hk2 := hka.2.1
        have HI : Hid (IsA w0 eo ec ks ∧ (∀ y ∈ ks, 0 ≤ y ∧ y < K)) := ⟨hka, hkk⟩
        have HPn : Hid (∀ q : Nat, q < K → PutC w0 b (.slice ao m c) l nt [.n q]) := fun q hq => HP.out [.n q] (by simp) (fun p hp => by simp at hp; subst hp; exact ⟨hr, hq⟩)
        have HPc : Hid (PutC w0 b (.slice ao m c) l nt [.s ⟨#[44]⟩]) := HP.out [.s ⟨#[44]⟩] (by simp) (fun p hp => by simp at hp; subst hp; exact ⟨hr, trivial⟩)
        have HR0 : Hid (run t' (comT nt 0 (ks.drop 0)) = run t' ((Pt.li eo ec ks).tk nt l)) := rfl
        generalize run t' ((Pt.li eo ec ks).tk nt l) = T1 at *
        obtain ⟨kl, hkl⟩ : ∃ kl, kl = ks.length := ⟨_, rfl⟩
        rw [← hkl] at a0 hk1
        have HKL : Hid (kl = ks.length) := hkl
        clear hka hkk hpo hkl
        go_wp2
        go_loopw [12, 13, 62] (fun _ _ i wx => ∃ (j : Nat) (t2 : List UInt8), j ≤ kl ∧ i = .int .i64 j ∧ St w0 b (.slice ao m c) t2 wx ∧ Kept b wr wx ∧ run t2 (comT nt j (ks.drop j)) = T1) (fun _ _ i _ => kl - (intOf i).toNat)
        case atStart => exact ⟨0, t', Nat.zero_le _, rfl, HSt.out, Kept.refl _ _, HR0.out⟩
        case round =>
          obtain ⟨j, t2, hj, rfl, hS2, hK2, hR⟩ := hrel
          clear HR0
          by_cases hjl : j < kl
          · obtain ⟨y, hy⟩ : ∃ y, ks[j]? = some y := ⟨_, List.getElem?_eq_getElem (by have := HKL.out; omega)⟩
            obtain ⟨gk, ok, rfl, hkc⟩ := (HI.out.1.below hS2.bl).2.2 (by have := HKL.out; omega)
            have b0 := hkc j y hy
            obtain ⟨y0, y1⟩ := HI.out.2 y (List.mem_of_getElem? hy)
            obtain ⟨q, rfl⟩ : ∃ q : Nat, y = q := ⟨y.toNat, by omega⟩
            have hdj : ks.drop j = (q : Int) :: ks.drop (j + 1) := by
              obtain ⟨hk', e⟩ := List.getElem?_eq_some_iff.1 hy
              rw [← e]
              exact List.drop_eq_getElem_cons hk'
            rw [hdj] at hR
            rcases Nat.eq_zero_or_pos j with rfl | hj0
            · have hz0 : (0 : Nat) + 1 = 1 := rfl
              rw [hz0] at hR
              replace b0 : wr.cell? ⟨gk, ok, none⟩ = some (.int .i64 q) := b0
              have hR2 : run (run t2 (nt q)) (comT nt 1 (ks.drop 1)) = T1 := by rw [← hR, ← run_app]; simp [comT]
              have hle : (run t2 (nt q)).length ≤ 140737488355328 := Nat.le_trans (run_le _ _) (by rw [hR2]; exact HLe.out)
              have HC : Hid (Calls Tryz.prog 26 #[.pointer (some ⟨b, 0, none⟩), .slice (some ⟨wr.heap.size, 0, none⟩) 1 1] (wr.alloc (.cells #[.iface 3 (.int .i64 q)] 20)) fun e w' => e = .returned (.tuple #[]) ∧ PoS w0 b (.slice ao m c) (run t2 (nt q)) wr w') := by
                have e : psT nt l [.n q] = nt q := by simp [psT, Pt.tk]
                have t3 := HPn.out q (by omega) t2 (wr.alloc (.cells #[.iface 3 (.int .i64 q)] 20)) wr.heap.size 1 rfl (hS2.alloc _) (Go.heap_alloc_new wr _) (by rw [e]; exact hle)
                rw [e] at t3
                exact t3.mono fun e w' ⟨h1, h2⟩ => ⟨h1, h2.of_alloc⟩
              have HK2 : Hid (∀ w', PoS w0 b (.slice ao m c) (run t2 (nt q)) wr w' → St w0 b (.slice ao m c) (run t2 (nt q)) w' ∧ Kept b _ w') := fun w' h => ⟨h.1, Kept.trans hK2 h.2⟩
              have HR2 : Hid (run (run t2 (nt q)) (comT nt 1 (ks.drop 1)) = T1) := hR2
              clear hkc hy hdj hR hR2 hle hS2 hK2 a0
              go_wp2_with fail
              refine HC.out.mono ?_
              rintro e w' ⟨rfl, hE⟩
              have HE : Hid _ := HK2.out _ hE
              clear hE
              go_wp2
              exact ⟨⟨1, _, by omega, by go_num, HE.out.1, HE.out.2, HR2.out⟩, by simp [intOf]; omega⟩
            · have hR2 : run (run (run t2 [[44]]) (nt q)) (comT nt (j + 1) (ks.drop (j + 1))) = T1 := by
                rw [← hR, ← run_app, ← run_app]
                simp only [comT, if_pos hj0, Int.toNat_natCast]
              have hle : (run (run t2 [[44]]) (nt q)).length ≤ 140737488355328 := Nat.le_trans (run_le _ _) (by rw [hR2]; exact HLe.out)
              have hle1 : (run t2 [[44]]).length ≤ 140737488355328 := Nat.le_trans (run_le _ _) hle
              have HC1 : Hid (Calls Tryz.prog 26 #[.pointer (some ⟨b, 0, none⟩), .slice (some ⟨wr.heap.size, 0, none⟩) 1 1] (wr.alloc (.cells #[.iface 9 (.string ⟨#[44]⟩)] 20)) fun e w' => e = .returned (.tuple #[]) ∧ PoS w0 b (.slice ao m c) (run t2 [[44]]) wr w') := by
                have e : psT nt l [.s ⟨#[44]⟩] = [[44]] := by simp [psT, Pt.tk]
                have t3 := HPc.out t2 (wr.alloc (.cells #[.iface 9 (.string ⟨#[44]⟩)] 20)) wr.heap.size 1 rfl (hS2.alloc _) (Go.heap_alloc_new wr _) (by rw [e]; exact hle1)
                rw [e] at t3
                exact t3.mono fun e w' ⟨h1, h2⟩ => ⟨h1, h2.of_alloc⟩
              have HC2 : Hid (∀ W, St w0 b (.slice ao m c) (run t2 [[44]]) W → Calls Tryz.prog 26 #[.pointer (some ⟨b, 0, none⟩), .slice (some ⟨W.heap.size, 0, none⟩) 1 1] (W.alloc (.cells #[.iface 3 (.int .i64 q)] 20)) fun e w' => e = .returned (.tuple #[]) ∧ PoS w0 b (.slice ao m c) (run (run t2 [[44]]) (nt q)) W w') := fun W hW => by
                have e : psT nt l [.n q] = nt q := by simp [psT, Pt.tk]
                have t3 := HPn.out q (by omega) (run t2 [[44]]) (W.alloc (.cells #[.iface 3 (.int .i64 q)] 20)) W.heap.size 1 rfl (hW.alloc _) (Go.heap_alloc_new W _) (by rw [e]; exact hle)
                rw [e] at t3
                exact t3.mono fun e w' ⟨h1, h2⟩ => ⟨h1, h2.of_alloc⟩
              have HK2 : Hid (∀ w', PoS w0 b (.slice ao m c) (run (run t2 [[44]]) (nt q)) wr w' → St w0 b (.slice ao m c) (run (run t2 [[44]]) (nt q)) w' ∧ Kept b _ w') := fun w' h => ⟨h.1, Kept.trans hK2 h.2⟩
              have HR2 : Hid (run (run (run t2 [[44]]) (nt q)) (comT nt (j + 1) (ks.drop (j + 1))) = T1) := hR2
              clear hkc hy hdj hR hR2 hle hle1 hS2 hK2 a0
              generalize run (run t2 [[44]]) (nt q) = T3 at *
              generalize run t2 [[44]] = T2 at *
              go_wp2_with fail
              refine HC1.out.mono ?_
              rintro e w1 ⟨rfl, hE⟩
              have HE1 : Hid (PoS w0 b (.slice ao m c) T2 wr w1) := hE
              clear hE
              go_wp2_with fail
              refine (HC2.out _ HE1.out.1).mono ?_
              rintro e w' ⟨rfl, hE⟩
              have HE : Hid _ := HK2.out _ (HE1.out.trans hE)
              clear hE
              go_wp2
              exact ⟨⟨j + 1, _, by omega, by go_num, HE.out.1, HE.out.2, HR2.out⟩, by simp [intOf]; omega⟩
          · obtain rfl : j = kl := by omega
            have hdj : ks.drop j = [] := List.drop_eq_nil_of_le (by have := HKL.out; omega)
            rw [hdj] at hR
            obtain rfl : t2 = T1 := hR
            have HE : Hid _ := HZ.out _ ⟨hS2, hK2⟩
            clear hdj hS2 hK2 a0
            go_wp2
            exact ⟨by simpa using HE.out, by simp [intOf]; omega⟩
      | pa eo ec ks =>
        obtain ⟨hka, hkk⟩ := hpo.2
        have hr : 2 ≤ r := by have := hpo.1; simp only [Pt.rk] at this; omega
        replace a0 : wr.cell? ⟨A, k, none⟩ = some (.iface 89 (.slice eo ks.length ec)) := a0
        have q0 := ta_89_9
        have q1 := ta_89_3
        have q2 := ta_89_87
        have q3 := ta_89_88
        have q4 := ta_89_89
        have hk1 := hka.1
        have hk2 := hka.2.1
        by_cases hks : ks = []
        · have e : run t' ((Pt.pa eo ec ks).tk nt l) = t' := by simp [Pt.tk, hks, run]
          have HZ0 : Hid _ := HZ.out wr ⟨e.symm ▸ HSt.out, Kept.refl _ _⟩
          clear e
          have hkl : ks.length = 0 := by rw [hks]; rfl
          rw [hkl] at a0 hk1
          clear hka hkk hpo hks hkl
          go_wp2
          exact ⟨by simpa using HZ0.out, by simp [intOf]; omega⟩
        · have e : (Pt.pa eo ec ks).tk nt l = psT nt l [.s ⟨#[40]⟩, .ea eo ec ks, .s ⟨#[41]⟩] := by simp [Pt.tk, psT, hks]
          have hkl : 0 < ks.length := List.length_pos_iff.2 hks
          have HC : Hid (Calls Tryz.prog 26 #[.pointer (some ⟨b, 0, none⟩), .slice (some ⟨wr.heap.size, 0, none⟩) 3 3] (wr.alloc (.cells #[.iface 9 (.string ⟨#[40]⟩), .iface 87 (.slice eo ks.length ec), .iface 9 (.string ⟨#[41]⟩)] 20)) fun e w' => e = .returned (.tuple #[]) ∧ PoS w0 b (.slice ao m c) (run t' ((Pt.pa eo ec ks).tk nt l)) wr w') := by
            have hl' := HLe.out
            rw [e] at hl' ⊢
            have t2 := HP.out [.s ⟨#[40]⟩, .ea eo ec ks, .s ⟨#[41]⟩] (by simp) (fun p hp => by simp at hp; rcases hp with rfl | rfl | rfl <;> first | exact ⟨by simp only [Pt.rk]; omega, hka, hkk⟩ | exact ⟨by simp only [Pt.rk]; omega, trivial⟩)
            exact (t2 t' (wr.alloc (.cells #[.iface 9 (.string ⟨#[40]⟩), .iface 87 (.slice eo ks.length ec), .iface 9 (.string ⟨#[41]⟩)] 20)) wr.heap.size 3 rfl (HSt.out.alloc _) (Go.heap_alloc_new wr _) hl').mono fun e w' ⟨h1, h2⟩ => ⟨h1, h2.of_alloc⟩
          clear hka hkk hpo hks e
          generalize run t' ((Pt.pa eo ec ks).tk nt l) = T1 at *
          generalize ks.length = kl at *
          go_wp2_with fail
          refine HC.out.mono ?_
          rintro e w' ⟨rfl, hE⟩
          have HE : Hid _ := HZ.out _ hE
          clear hE
          go_wp2
          exact ⟨by simpa using HE.out, by simp [intOf]; omega⟩
      | op q =>
        have hq : q < K := hpo.2
        have hr : 1 ≤ r := by have := hpo.1; simp only [Pt.rk] at this; omega
        replace a0 : wr.cell? ⟨A, k, none⟩ = some (.iface 90 (.int .i64 q)) := a0
        have H47 : Hid (Calls Tryz.prog 47 #[.pointer (some ⟨b, 0, none⟩), .int .i64 q, .int .u64 17762910994432] wr fun e w' => e = .returned (.tuple #[]) ∧ PoS w0 b (.slice ao m c) (run t' ((Pt.op q).tk nt l)) wr w') := by
          have t1 := HP.out [.n q] (by simp) (fun p hp => by simp at hp; subst hp; exact ⟨hr, hq⟩)
          have t2 := HP.out [.s ⟨#[40]⟩, .n q, .s ⟨#[41]⟩] (by simp) (fun p hp => by simp at hp; rcases hp with rfl | rfl | rfl <;> first | exact ⟨hr, hq⟩ | exact ⟨hr, trivial⟩)
          have t3 := HSt.out
          rw [HM.out.1] at t1 t2 t3 ⊢
          exact bracketed47 w0 b ao c l nt q 17762910994432 t' wr HL.out (by have := HM.out.1; omega) (by decide) t1 t2 t3 HLe.out
        have q0 := ta_90_9
        have q1 := ta_90_3
        have q2 := ta_90_87
        have q3 := ta_90_88
        have q4 := ta_90_89
        have q5 := ta_90_90
        clear hpo
        generalize run t' ((Pt.op q).tk nt l) = T1 at *
        go_wp2_with fail
        refine H47.out.mono ?_
        rintro e w' ⟨rfl, hE⟩
        have HE : Hid _ := HZ.out _ hE
        clear hE
        go_wp2
        exact ⟨by simpa using HE.out, by simp [intOf]; omega⟩
      | ow q =>
        have hq : q < K := hpo.2
        have hr : 1 ≤ r := by have := hpo.1; simp only [Pt.rk] at this; omega
        replace a0 : wr.cell? ⟨A, k, none⟩ = some (.iface 92 (.int .i64 q)) := a0
        have H47 : Hid (Calls Tryz.prog 47 #[.pointer (some ⟨b, 0, none⟩), .int .i64 q, .int .u64 19961934249984] wr fun e w' => e = .returned (.tuple #[]) ∧ PoS w0 b (.slice ao m c) (run t' ((Pt.ow q).tk nt l)) wr w') := by
          have t1 := HP.out [.n q] (by simp) (fun p hp => by simp at hp; subst hp; exact ⟨hr, hq⟩)
          have t2 := HP.out [.s ⟨#[40]⟩, .n q, .s ⟨#[41]⟩] (by simp) (fun p hp => by simp at hp; rcases hp with rfl | rfl | rfl <;> first | exact ⟨hr, hq⟩ | exact ⟨hr, trivial⟩)
          have t3 := HSt.out
          rw [HM.out.1] at t1 t2 t3 ⊢
          exact bracketed47 w0 b ao c l nt q 19961934249984 t' wr HL.out (by have := HM.out.1; omega) (by decide) t1 t2 t3 HLe.out
        have q0 := ta_92_9
        have q1 := ta_92_3
        have q2 := ta_92_87
        have q3 := ta_92_88
        have q4 := ta_92_89
        have q5 := ta_92_90
        have q6 := ta_92_92
        clear hpo
        generalize run t' ((Pt.ow q).tk nt l) = T1 at *
        go_wp2_with fail
        refine H47.out.mono ?_
        rintro e w' ⟨rfl, hE⟩
        have HE : Hid _ := HZ.out _ hE
        clear hE
        go_wp2
        exact ⟨by simpa using HE.out, by simp [intOf]; omega⟩
    · obtain rfl : k = n := by omega
      have hdk : ps.drop k = [] := List.drop_eq_nil_of_le (by have := HM.out.2; omega)
      rw [hdk] at hR
      have HE : Hid (PoS w0 b (.slice ao m c) T W wr) := by
        obtain rfl : t' = T := hR
        exact ⟨hSt, hKe⟩
      clear hdk hR hSt hKe
      go_wp2
      go_end0
      exact ⟨rfl, HE.out⟩
theorem puts_all (w0 : World) (b : Nat) (ao : Option Addr) (c : Nat) (l : List Nd) (nt : Nat → Tks) (K : Nat) (hl : NdA w0 ao c l) (hK : K ≤ l.length) (hN : ∀ k, k < K → NodeC w0 b (.slice ao l.length c) l nt k) : Puts w0 b (.slice ao l.length c) l nt K 3 :=
  put_step w0 b ao c l nt K 2 hl hK hN (put_step w0 b ao c l nt K 1 hl hK hN (put_step w0 b ao c l nt K 0 hl hK hN (fun ps h hp => by
    obtain ⟨p, hp'⟩ := List.exists_mem_of_length_pos h.1
    exact absurd (hp p hp').1 (Nat.not_lt_zero _))))
end Go.Proofs.YtkkmeogehapjoaaGreatDoor
