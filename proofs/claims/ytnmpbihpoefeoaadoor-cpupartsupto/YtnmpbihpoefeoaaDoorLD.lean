/- Of a memory: its pages in order (T3). Of a memory: its pages in order (T4). -/
import Derived.Test.YtnmpbihpoefeoaaDoorLT1
import Derived.Test.YtnmpbihpoefeoaaDoorLA
import Derived.Test.YtnmpbihpoefeoaaDoorLC
import Derived.Test.YtnmpbihpoefeoaaDoorLS6
import Derived.Deep.CutRange
namespace Go.Proofs.YtnmpbihpoefeoaaDoor
section
open Go.RowKit Go.Shelf Go.Sort
theorem hint_dec {h : Hint} (e : h = .decreasing) : hintI h = 2 := by rw [e]; rfl
theorem hint_ndec {h : Hint} (e : ¬ h = .decreasing) : ¬ hintI h = 2 := by cases h <;> simp [hintI] at *
set_option maxHeartbeats 64000000 in
set_option maxRecDepth 100000 in
theorem pdq59 (blk off len cap : Nat) (hs : len ≤ 65536) : ∀ (N a b limit : Nat) (d : Array Int) (w : World), b - a < N → a ≤ b → b ≤ len → d.size = len → Rw w blk off d w → limit ≤ 100 →
    Calls Tryd.prog 79 #[.slice (some ⟨blk, off, none⟩) len cap, .int .i64 a, .int .i64 b, .int .i64 limit] w fun e w' => e = .returned (.tuple #[]) ∧ Rw w blk off (pdq ltInt d a b limit true true) w' := by
  intro N
  induction N with
  | zero => intro a b limit d w h; exact absurd h (Nat.not_lt_zero _)
  | succ N ih =>
    intro a0 b0 lim0 d w hN hab0 hb0 hsz hH hl0
    have IH : Hid (∀ (a b limit : Nat) (dk : Array Int) (W : World), Rw w blk off dk W → b - a < N → a ≤ b → b ≤ len → dk.size = len → limit ≤ 100 → Calls Tryd.prog 79 #[.slice (some ⟨blk, off, none⟩) len cap, .int .i64 a, .int .i64 b, .int .i64 limit] W fun e w' => e = .returned (.tuple #[]) ∧ Rw w blk off (pdq ltInt dk a b limit true true) w' ∧ (pdq ltInt dk a b limit true true).size = len) := fun a b limit dk W hR h1 h2 h3 h4 h5 =>
      (ih a b limit dk W h1 h2 h3 h4 hR.self h5).mono fun e w' ⟨he, hr⟩ => ⟨he, hR.trans hr, by rw [pdq_size N dk a b limit true true h1 h2 (by omega), h4]⟩
    have CI : Hid (∀ (a b : Nat) (dk : Array Int) (W : World), Rw w blk off dk W → dk.size = len → a ≤ b → b ≤ len → Calls Tryd.prog 86 #[.slice (some ⟨blk, off, none⟩) len cap, .int .i64 a, .int .i64 b] W fun e w' => e = .returned (.tuple #[]) ∧ Rw w blk off (Sort.insertionSort ltInt dk a b) w') := fun a b dk W hR hk h1 h2 => (ins61 blk off len cap a b dk W hR.self hk hs h1 h2).mono fun e w' ⟨he, hr⟩ => ⟨he, hR.trans hr⟩
    have CH : Hid (∀ (a b : Nat) (dk : Array Int) (W : World), Rw w blk off dk W → dk.size = len → a ≤ b → b ≤ len → Calls Tryd.prog 87 #[.slice (some ⟨blk, off, none⟩) len cap, .int .i64 a, .int .i64 b] W fun e w' => e = .returned (.tuple #[]) ∧ Rw w blk off (Sort.heapSort ltInt dk a b) w') := fun a b dk W hR hk h1 h2 => (heap62 blk off len cap a b dk W hR.self hk hs h1 h2).mono fun e w' ⟨he, hr⟩ => ⟨he, hR.trans hr⟩
    have CB : Hid (∀ (a b : Nat) (dk : Array Int) (W : World), Rw w blk off dk W → dk.size = len → a < b → b ≤ len → Calls Tryd.prog 88 #[.slice (some ⟨blk, off, none⟩) len cap, .int .i64 a, .int .i64 b] W fun e w' => e = .returned (.tuple #[]) ∧ Rw w blk off (Sort.breakPatterns dk a b) w') := fun a b dk W hR hk h1 h2 => (brk63 blk off len cap a b dk W hR.self hk hs h1 h2).mono fun e w' ⟨he, hr⟩ => ⟨he, hR.trans hr⟩
    have CP : Hid (∀ (a b : Nat) (dk : Array Int) (W : World), Rw w blk off dk W → dk.size = len → a < b → b ≤ len → Calls Tryd.prog 89 #[.slice (some ⟨blk, off, none⟩) len cap, .int .i64 a, .int .i64 b] W fun e w' => e = .returned (.tuple #[.int .i64 (((choosePivot ltInt dk a b).1 : Nat) : Int), .int .i64 (hintI (choosePivot ltInt dk a b).2)]) ∧ Rw w blk off dk w') := fun a b dk W hR hk h1 h2 => (piv64 blk off len cap a b dk W hR.self hk hs h1 h2).mono fun e w' ⟨he, hr⟩ => ⟨he, hR.trans hr⟩
    have CR : Hid (∀ (a b : Nat) (dk : Array Int) (W : World), Rw w blk off dk W → dk.size = len → a < b → b ≤ len → Calls Tryd.prog 90 #[.slice (some ⟨blk, off, none⟩) len cap, .int .i64 a, .int .i64 b] W fun e w' => e = .returned (.tuple #[]) ∧ Rw w blk off (Sort.reverseRange dk a b) w') := fun a b dk W hR hk h1 h2 => (rev65 blk off len cap a b dk W hR.self hk hs h1 h2).mono fun e w' ⟨he, hr⟩ => ⟨he, hR.trans hr⟩
    have CS : Hid (∀ (a b : Nat) (dk : Array Int) (W : World), Rw w blk off dk W → dk.size = len → a < b → b ≤ len → Calls Tryd.prog 91 #[.slice (some ⟨blk, off, none⟩) len cap, .int .i64 a, .int .i64 b] W fun e w' => e = .returned (.bool (Sort.partialInsertionSort ltInt dk a b).2) ∧ Rw w blk off (Sort.partialInsertionSort ltInt dk a b).1 w') := fun a b dk W hR hk h1 h2 => (pis66 blk off len cap a b dk W hR.self hk hs h1 h2).mono fun e w' ⟨he, hr⟩ => ⟨he, hR.trans hr⟩
    have CE : Hid (∀ (a b p : Nat) (dk : Array Int) (W : World), Rw w blk off dk W → dk.size = len → a ≤ p → p < b → b ≤ len → Calls Tryd.prog 93 #[.slice (some ⟨blk, off, none⟩) len cap, .int .i64 a, .int .i64 b, .int .i64 p] W fun e w' => e = .returned (.int .i64 (((Sort.partitionEqual ltInt dk a b p).1 : Nat) : Int)) ∧ Rw w blk off (Sort.partitionEqual ltInt dk a b p).2 w') := fun a b p dk W hR hk h1 h2 h3 => (partEq68 blk off len cap a b p dk W hR.self hk hs h1 h2 h3).mono fun e w' ⟨he, hr⟩ => ⟨he, hR.trans hr⟩
    have CT : Hid (∀ (a b p : Nat) (dk : Array Int) (W : World), Rw w blk off dk W → dk.size = len → a ≤ p → p < b → b ≤ len → Calls Tryd.prog 94 #[.slice (some ⟨blk, off, none⟩) len cap, .int .i64 a, .int .i64 b, .int .i64 p] W fun e w' => e = .returned (.tuple #[.int .i64 (((Sort.partition ltInt dk a b p).1 : Nat) : Int), .bool (Sort.partition ltInt dk a b p).2.1]) ∧ Rw w blk off (Sort.partition ltInt dk a b p).2.2 w') := fun a b p dk W hR hk h1 h2 h3 => (part69 blk off len cap a b p dk W hR.self hk hs h1 h2 h3).mono fun e w' ⟨he, hr⟩ => ⟨he, hR.trans hr⟩
    obtain ⟨D, hD⟩ : ∃ D, pdq ltInt d a0 b0 lim0 true true = D := ⟨_, rfl⟩
    rw [hD]
    have HD : Hid (pdq ltInt d a0 b0 lim0 true true = D) := hD
    have HH : Hid (Rw w blk off d w) := hH
    clear ih hD hH
    go_enter Tryd.func79, Tryd.ntmps79
    go_wp2_with fail
    go_loopw [1, 2, 3, 8, 9] (fun va vb vl vw vp wr => ∃ (a b limit : Nat) (wb wp : Bool) (dk : Array Int), va = .int .i64 a ∧ vb = .int .i64 b ∧ vl = .int .i64 limit ∧ vw = .bool wb ∧ vp = .bool wp ∧ a ≤ b ∧ b ≤ len ∧ b - a ≤ b0 - a0 ∧ limit ≤ 100 ∧ dk.size = len ∧ Rw w blk off dk wr ∧ pdq ltInt dk a b limit wb wp = D) (fun va vb _ _ _ _ => (intOf vb - intOf va).toNat)
    case atStart => exact ⟨a0, b0, lim0, true, true, d, rfl, rfl, rfl, rfl, rfl, hab0, hb0, Nat.le_refl _, hl0, hsz, HH.out, HD.out⟩
    case round =>
      obtain ⟨a, b, limit, wb, wp, dk, rfl, rfl, rfl, rfl, rfl, hab, hbl, hba, hlim, hsk, hR, hO⟩ := hrel
      have HR : Hid (Rw w blk off dk wr) := hR
      have HO : Hid (pdq ltInt dk a b limit wb wp = D) := hO
      clear hR hO HH HD
      obtain ⟨l, hl⟩ : ∃ l : Nat, b - a = l := ⟨_, rfl⟩
      have y1 : (b : Int) - (a : Int) = (l : Int) := by omega
      by_cases h12 : l ≤ 12
      · have HE : Hid (Sort.insertionSort ltInt dk a b = D) := (by rw [← HO.out, pdq_ins (by omega)] : Sort.insertionSort ltInt dk a b = D)
        go_wp2_with fail
        refine (CI.out a b dk _ HR.out hsk hab hbl).mono ?_
        rintro e w1 ⟨rfl, hr⟩
        have HX : Hid (Rw w blk off (Sort.insertionSort ltInt dk a b) w1) := hr
        clear hr
        go_wp2
        refine bodyPost_ret (results_none rfl _ _ _) rfl ?_
        exact ⟨rfl, HE.out ▸ HX.out⟩
      · by_cases h0 : limit = 0
        · subst h0
          have HE : Hid (Sort.heapSort ltInt dk a b = D) := (by rw [← HO.out, pdq_heap (by omega) rfl] : Sort.heapSort ltInt dk a b = D)
          go_wp2_with fail
          refine (CH.out a b dk _ HR.out hsk hab hbl).mono ?_
          rintro e w1 ⟨rfl, hr⟩
          have HX : Hid (Rw w blk off (Sort.heapSort ltInt dk a b) w1) := hr
          clear hr
          go_wp2
          refine bodyPost_ret (results_none rfl _ _ _) rfl ?_
          exact ⟨rfl, HE.out ▸ HX.out⟩
        · have h0i : ¬ (limit : Int) = 0 := by omega
          have hlt : a < b := by omega
          obtain ⟨d1, e1⟩ : ∃ d1, (if !wb then Sort.breakPatterns dk a b else dk) = d1 := ⟨_, rfl⟩
          obtain ⟨lim, e2⟩ : ∃ lim : Nat, (if !wb then limit - 1 else limit) = lim := ⟨_, rfl⟩
          obtain ⟨c, e3⟩ : ∃ c, choosePivot ltInt d1 a b = c := ⟨_, rfl⟩
          obtain ⟨d2, e4⟩ : ∃ d2, (if c.2 = .decreasing then Sort.reverseRange d1 a b else d1) = d2 := ⟨_, rfl⟩
          obtain ⟨pv, e5⟩ : ∃ pv : Nat, (if c.2 = .decreasing then (b - 1) - (c.1 - a) else c.1) = pv := ⟨_, rfl⟩
          obtain ⟨hint, e6⟩ : ∃ hint, (if c.2 = .decreasing then Hint.increasing else c.2) = hint := ⟨_, rfl⟩
          obtain ⟨pi, e7⟩ : ∃ pi, (if wb && wp && hint = .increasing then Sort.partialInsertionSort ltInt d2 a b else (d2, false)) = pi := ⟨_, rfl⟩
          obtain ⟨s1, s2, s3, p1, p2, e8⟩ := pdq_round (d := dk) (a := a) (b := b) (limit := limit) (wb := wb) (wp := wp) (by omega) h0 (by omega) e1 e2 e3 e4 e5 e6 e7
          have HRd : Hid ((if pi.2 then pi.1 else pdqRest pi.1 a b lim pv wb wp) = D) := (by rw [← e8]; exact HO.out : (if pi.2 then pi.1 else pdqRest pi.1 a b lim pv wb wp) = D)
          have hcr := choosePivot_holds ltInt d1 a b hlt
          rw [e3] at hcr
          rw [hsk] at s1 s2 s3
          have hlm : lim ≤ 100 := by rw [← e2]; split <;> omega
          have E1 : Hid ((if !wb then Sort.breakPatterns dk a b else dk) = d1) := e1
          have E2 : Hid ((if !wb then limit - 1 else limit) = lim) := e2
          have E4 : Hid ((if c.2 = .decreasing then Sort.reverseRange d1 a b else d1) = d2) := e4
          have E5 : Hid ((if c.2 = .decreasing then (b - 1) - (c.1 - a) else c.1) = pv) := e5
          have E6 : Hid ((if c.2 = .decreasing then Hint.increasing else c.2) = hint) := e6
          have E7 : Hid ((if wb && wp && hint = .increasing then Sort.partialInsertionSort ltInt d2 a b else (d2, false)) = pi) := e7
          have HPv : Hid (∀ W, Rw w blk off d1 W → Calls Tryd.prog 89 #[.slice (some ⟨blk, off, none⟩) len cap, .int .i64 a, .int .i64 b] W fun e w' => e = .returned (.tuple #[.int .i64 (c.1 : Int), .int .i64 (hintI c.2)]) ∧ Rw w blk off d1 w') := fun W hW => by have t := CP.out a b d1 W hW s1 hlt hbl; rw [e3] at t; exact t
          clear e8 HO e1 e2 e3 e4 e5 e6 e7
          go_upto_if 35 with fail
          go_cut [3] from 19 to 133 (fun v3 wc => v3 = .int .i64 lim ∧ Rw w blk off d1 wc)
          case first =>
            cases wb
            · have yl : (limit : Int) - 1 = (lim : Int) := by have : limit - 1 = lim := E2.out; omega
              go_wp2_with fail
              refine (CB.out a b dk _ HR.out hsk hlt hbl).mono ?_
              rintro e w1 ⟨rfl, hr⟩
              have H1 : Hid (Rw w blk off d1 w1) := (by have t : Sort.breakPatterns dk a b = d1 := E1.out; rw [← t]; exact hr : Rw w blk off d1 w1)
              clear hr
              go_wp2_with fail
              go_meet
              case rel => exact ⟨rfl, H1.out⟩
            · have hll : limit = lim := E2.out
              have HR1 : Hid (Rw w blk off d1 wr) := (by have t : dk = d1 := E1.out; rw [← t]; exact HR.out : Rw w blk off d1 wr)
              go_wp2_with fail
              go_meet
              case rel => exact ⟨by rw [hll], HR1.out⟩
          case rest =>
            obtain ⟨rfl, hr1⟩ := hcut
            have H1 : Hid (Rw w blk off d1 wc) := hr1
            clear hr1
            go_upto_if 50 with (go_at_call 89; refine (HPv.out _ H1.out).mono ?_; rintro e w2 ⟨rfl, hr2⟩)
            have H2 : Hid (Rw w blk off d1 w2) := hr2
            clear hr2
            go_cut [11, 12] from 19 to 133 (fun v11 v12 wc => v11 = .int .i64 pv ∧ v12 = .int .i64 (hintI hint) ∧ Rw w blk off d2 wc)
            case first =>
              by_cases hdec : c.2 = .decreasing
              · have hv := hint_dec hdec
                have HE : Hid (Sort.reverseRange d1 a b = d2) := (by have t := E4.out; rw [if_pos hdec] at t; exact t : Sort.reverseRange d1 a b = d2)
                have yp : (b : Int) - 1 - ((c.1 : Int) - (a : Int)) = (pv : Int) := by have t := E5.out; rw [if_pos hdec] at t; omega
                have hhi : hintI hint = 1 := by have t := E6.out; rw [if_pos hdec] at t; rw [← t]; rfl
                go_wp2_with fail
                refine (CR.out a b d1 _ H2.out s1 hlt hbl).mono ?_
                rintro e w3 ⟨rfl, hr⟩
                have H3 : Hid (Rw w blk off d2 w3) := (by rw [← HE.out]; exact hr : Rw w blk off d2 w3)
                clear hr
                go_wp2_with fail
                go_meet
                case rel => exact ⟨rfl, by rw [hhi], H3.out⟩
              · have hn2 := hint_ndec hdec
                have H3 : Hid (Rw w blk off d2 w2) := (by have t := E4.out; rw [if_neg hdec] at t; rw [← t]; exact H2.out : Rw w blk off d2 w2)
                have q5 : c.1 = pv := by have t := E5.out; rw [if_neg hdec] at t; exact t
                have q6 : c.2 = hint := by have t := E6.out; rw [if_neg hdec] at t; exact t
                have Q5 : Hid (c.1 = pv ∧ c.2 = hint) := ⟨q5, q6⟩
                clear q5 q6
                go_wp2_with fail
                go_meet
                case rel => exact ⟨by rw [Q5.out.1], by rw [Q5.out.2], H3.out⟩
            case rest =>
              obtain ⟨rfl, rfl, hr3⟩ := hcut
              have H3 : Hid (Rw w blk off d2 wc) := hr3
              clear hr3
              go_upto_region 15 with fail
              go_cut [12, 68] from 19 to 133 (fun v12 v68 wx => v12 = .int .i64 (hintI hint) ∧ v68 = .bool (wb && wp && decide (hint = .increasing)) ∧ wx = wc)
              case first =>
                cases wb <;> cases wp <;> cases hint <;>
                  (simp only [hintI]
                   go_wp2_with fail
                   go_meet
                   exact ⟨rfl, by simp, rfl⟩)
              case rest =>
                obtain ⟨rfl, rfl, rfl⟩ := hcut
                go_upto_if 68 with fail
                go_cut [] from 19 to 133 (fun wx => pi.2 = false ∧ Rw w blk off pi.1 wx)
                case first =>
                  cases h68 : (wb && wp && decide (hint = .increasing))
                  · have HP : Hid ((d2, false) = pi) := (by have t := E7.out; rw [h68] at t; exact t : (d2, false) = pi)
                    go_wp2_with fail
                    go_meet
                    case rel => exact ⟨by rw [← HP.out], by rw [← HP.out]; exact H3.out⟩
                  · have HP : Hid (Sort.partialInsertionSort ltInt d2 a b = pi) := (by have t := E7.out; rw [h68] at t; exact t : Sort.partialInsertionSort ltInt d2 a b = pi)
                    have HC6 : Hid (∀ W, Rw w blk off d2 W → Calls Tryd.prog 91 #[.slice (some ⟨blk, off, none⟩) len cap, .int .i64 a, .int .i64 b] W fun e w' => e = .returned (.bool pi.2) ∧ Rw w blk off pi.1 w') := fun W hW => by have t := CS.out a b d2 W hW s2 hlt hbl; rw [HP.out] at t; exact t
                    clear HP E7
                    obtain ⟨d3, fl⟩ := pi
                    simp only [] at HC6 HRd s3 ⊢
                    cases fl
                    · go_wp2_with fail
                      refine (HC6.out _ H3.out).mono ?_
                      rintro e w4 ⟨rfl, hr⟩
                      have H4 : Hid (Rw w blk off d3 w4) := hr
                      clear hr
                      go_wp2_with fail
                      go_meet
                      case rel => exact ⟨trivial, H4.out⟩
                    · obtain rfl : d3 = D := HRd.out
                      go_wp2_with fail
                      refine (HC6.out _ H3.out).mono ?_
                      rintro e w4 ⟨rfl, hr⟩
                      have H4 : Hid (Rw w blk off d3 w4) := hr
                      clear hr
                      go_wp2_with fail
                      (try simp only [Exit.inBlock, Exit.then])
                      refine bodyPost_ret (results_none rfl _ _ _) rfl ?_
                      exact ⟨rfl, H4.out⟩
                case rest =>
                  obtain ⟨hfl, hr4⟩ := hcut
                  obtain ⟨d3, fl⟩ := pi
                  obtain rfl : fl = false := hfl
                  have HRS : Hid (pdqRest d3 a b lim pv wb wp = D) := HRd.out
                  have HR3 : Hid (Rw w blk off d3 wc) := hr4
                  have hs3 : d3.size = len := s3
                  clear hr4 E7 HRd s3
                  obtain ⟨G, hG, hcw, hfw⟩ := HR3.out.fam
                  rw [hs3] at hcw hfw
                  have HG : Hid (∀ t, G t = d3[t]!) := hG
                  clear hG
                  by_cases ha : 0 < a
                  · have hai : (0 : Int) < (a : Int) := by omega
                    cases hls : ltInt (G (a - 1)) (G pv)
                    · have HN : Hid (pdq ltInt (Sort.partitionEqual ltInt d3 a b pv).2 (Sort.partitionEqual ltInt d3 a b pv).1 b lim wb wp = D) := by
                        have t := HRS.out
                        unfold pdqRest at t
                        rw [if_pos (by rw [← HG.out, ← HG.out, hls, decide_eq_true ha]; rfl)] at t
                        exact t
                      have hu := partEq_range a b _ (a + 1) (b - 1) (swp d3 a pv) (Nat.le_refl _) (Nat.le_refl _) (by omega) (by omega)
                      have u1 : a < (Sort.partitionEqual ltInt d3 a b pv).1 := hu.1
                      have u2 : (Sort.partitionEqual ltInt d3 a b pv).1 ≤ b := hu.2.1
                      have u3 : (Sort.partitionEqual ltInt d3 a b pv).2.size = len := by rw [← hs3, ← size_swp d3 a pv]; exact hu.2.2
                      have HT : Hid (∀ W, Rw w blk off d3 W → Calls Tryd.prog 93 #[.slice (some ⟨blk, off, none⟩) len cap, .int .i64 a, .int .i64 b, .int .i64 pv] W fun e w' => e = .returned (.int .i64 (((Sort.partitionEqual ltInt d3 a b pv).1 : Nat) : Int)) ∧ Rw w blk off (Sort.partitionEqual ltInt d3 a b pv).2 w') := fun W hW => CE.out a b pv d3 W hW hs3 p1 p2 hbl
                      clear hu
                      generalize Sort.partitionEqual ltInt d3 a b pv = q at *
                      obtain ⟨mid, d4⟩ := q
                      simp only [] at HN HT u1 u2 u3
                      go_wp2
                      go_quiet (first | (go_at_call 92; refine Calls.quiet_of_same (less67 _ _ _)))
                      have HRq : Hid (Rw w blk off d3 (wc.drewN nq)) := HR3.out.drewN _
                      clear hcw hfw
                      generalize wc.drewN nq = wq at *
                      go_wp2_with fail
                      refine (HT.out _ HRq.out).mono ?_
                      rintro e w5 ⟨rfl, hr⟩
                      have H5 : Hid (Rw w blk off d4 w5) := hr
                      clear hr
                      go_wp2
                      go_roundw
                      case rel => exact ⟨mid, b, lim, wb, wp, d4, rfl, rfl, rfl, rfl, rfl, by omega, by omega, by omega, hlm, u3, H5.out, HN.out⟩
                      case measure => simp [intOf]; omega
                    · have HN : Hid ((if (Sort.partition ltInt d3 a b pv).1 - a < b - (Sort.partition ltInt d3 a b pv).1 then
                          pdq ltInt (pdq ltInt (Sort.partition ltInt d3 a b pv).2.2 a (Sort.partition ltInt d3 a b pv).1 lim true true) ((Sort.partition ltInt d3 a b pv).1 + 1) b lim (decide ((Sort.partition ltInt d3 a b pv).1 - a ≥ (b - a) / 8)) (Sort.partition ltInt d3 a b pv).2.1
                        else pdq ltInt (pdq ltInt (Sort.partition ltInt d3 a b pv).2.2 ((Sort.partition ltInt d3 a b pv).1 + 1) b lim true true) a (Sort.partition ltInt d3 a b pv).1 lim (decide (b - (Sort.partition ltInt d3 a b pv).1 ≥ (b - a) / 8)) (Sort.partition ltInt d3 a b pv).2.1) = D) := by
                        have t := HRS.out
                        unfold pdqRest at t
                        rw [if_neg (by rw [← HG.out, ← HG.out, hls]; simp)] at t
                        exact t
                      have hu := partition_holds (lt := ltInt) swo_ltInt d3 a b pv p1 p2 (by omega)
                      have u1 := hu.1
                      have u2 := hu.2.1
                      have u3 := hu.2.2.1.1
                      rw [hs3] at u3
                      have HT : Hid (∀ W, Rw w blk off d3 W → Calls Tryd.prog 94 #[.slice (some ⟨blk, off, none⟩) len cap, .int .i64 a, .int .i64 b, .int .i64 pv] W fun e w' => e = .returned (.tuple #[.int .i64 (((Sort.partition ltInt d3 a b pv).1 : Nat) : Int), .bool (Sort.partition ltInt d3 a b pv).2.1]) ∧ Rw w blk off (Sort.partition ltInt d3 a b pv).2.2 w') := fun W hW => CT.out a b pv d3 W hW hs3 p1 p2 hbl
                      clear hu
                      generalize Sort.partition ltInt d3 a b pv = q at *
                      obtain ⟨mid, ap, d4⟩ := q
                      simp only [] at HN HT u1 u2 u3
                      obtain ⟨ll, hll⟩ : ∃ ll : Nat, mid - a = ll := ⟨_, rfl⟩
                      obtain ⟨rr, hrr⟩ : ∃ rr : Nat, b - mid = rr := ⟨_, rfl⟩
                      obtain ⟨t8, ht8⟩ : ∃ t8 : Nat, l / 8 = t8 := ⟨_, rfl⟩
                      have y5 : (mid : Int) - (a : Int) = (ll : Int) := by omega
                      have y6 : (b : Int) - (mid : Int) = (rr : Int) := by omega
                      have y7 : (l : Int) / 8 = (t8 : Int) := by omega
                      rw [hll, hrr, hl, ht8] at HN
                      by_cases hlr : ll < rr
                      · have HN2 : Hid (pdq ltInt (pdq ltInt d4 (a) (mid) lim true true) (mid + 1) (b) lim (decide (ll ≥ t8)) ap = D) := (by have t := HN.out; rw [if_pos hlr] at t; exact t : pdq ltInt (pdq ltInt d4 (a) (mid) lim true true) (mid + 1) (b) lim (decide (ll ≥ t8)) ap = D)
                        have HI : Hid (∀ W, Rw w blk off d4 W → Calls Tryd.prog 79 #[.slice (some ⟨blk, off, none⟩) len cap, .int .i64 ((a : Int)), .int .i64 ((mid : Int)), .int .i64 lim] W fun e w' => e = .returned (.tuple #[]) ∧ Rw w blk off (pdq ltInt d4 (a) (mid) lim true true) w' ∧ (pdq ltInt d4 (a) (mid) lim true true).size = len) := fun W hW => by
                          have t := IH.out (a) (mid) lim d4 W hW (by omega) (by omega) (by omega) u3 hlm
                          exact t
                        go_wp2
                        go_quiet (first | (go_at_call 92; refine Calls.quiet_of_same (less67 _ _ _)))
                        have HRq : Hid (Rw w blk off d3 (wc.drewN nq)) := HR3.out.drewN _
                        clear hcw hfw
                        generalize wc.drewN nq = wq at *
                        go_wp2_with fail
                        refine (HT.out _ HRq.out).mono ?_
                        rintro e w5 ⟨rfl, hr⟩
                        have H5 : Hid (Rw w blk off d4 w5) := hr
                        clear hr
                        go_wp2_with fail
                        refine (HI.out _ H5.out).mono ?_
                        rintro e w6 ⟨rfl, hr, hz⟩
                        have H6 : Hid (Rw w blk off (pdq ltInt d4 (a) (mid) lim true true) w6) := hr
                        clear hr
                        go_wp2
                        go_roundw
                        case rel => exact ⟨mid + 1, b, lim, decide (ll ≥ t8), ap, _, by go_num, rfl, rfl, by congr 1, rfl, by omega, by omega, by omega, hlm, hz, H6.out, HN2.out⟩
                        case measure => simp [intOf]; omega
                      · have HN2 : Hid (pdq ltInt (pdq ltInt d4 (mid + 1) (b) lim true true) (a) (mid) lim (decide (rr ≥ t8)) ap = D) := (by have t := HN.out; rw [if_neg hlr] at t; exact t : pdq ltInt (pdq ltInt d4 (mid + 1) (b) lim true true) (a) (mid) lim (decide (rr ≥ t8)) ap = D)
                        have HI : Hid (∀ W, Rw w blk off d4 W → Calls Tryd.prog 79 #[.slice (some ⟨blk, off, none⟩) len cap, .int .i64 ((mid : Int) + 1), .int .i64 ((b : Int)), .int .i64 lim] W fun e w' => e = .returned (.tuple #[]) ∧ Rw w blk off (pdq ltInt d4 (mid + 1) (b) lim true true) w' ∧ (pdq ltInt d4 (mid + 1) (b) lim true true).size = len) := fun W hW => by
                          have t := IH.out (mid + 1) (b) lim d4 W hW (by omega) (by omega) (by omega) u3 hlm
                          rw [show ((mid + 1 : Nat) : Int) = (mid : Int) + 1 by omega] at t; exact t
                        go_wp2
                        go_quiet (first | (go_at_call 92; refine Calls.quiet_of_same (less67 _ _ _)))
                        have HRq : Hid (Rw w blk off d3 (wc.drewN nq)) := HR3.out.drewN _
                        clear hcw hfw
                        generalize wc.drewN nq = wq at *
                        go_wp2_with fail
                        refine (HT.out _ HRq.out).mono ?_
                        rintro e w5 ⟨rfl, hr⟩
                        have H5 : Hid (Rw w blk off d4 w5) := hr
                        clear hr
                        go_wp2_with fail
                        refine (HI.out _ H5.out).mono ?_
                        rintro e w6 ⟨rfl, hr, hz⟩
                        have H6 : Hid (Rw w blk off (pdq ltInt d4 (mid + 1) (b) lim true true) w6) := hr
                        clear hr
                        go_wp2
                        go_roundw
                        case rel => exact ⟨a, mid, lim, decide (rr ≥ t8), ap, _, rfl, rfl, rfl, by congr 1, rfl, by omega, by omega, by omega, hlm, hz, H6.out, HN2.out⟩
                        case measure => simp [intOf]; omega
                  · have hai : decide ((0 : Int) < (a : Int)) = false := decide_eq_false (by omega)
                    have HN : Hid ((if (Sort.partition ltInt d3 a b pv).1 - a < b - (Sort.partition ltInt d3 a b pv).1 then
                        pdq ltInt (pdq ltInt (Sort.partition ltInt d3 a b pv).2.2 a (Sort.partition ltInt d3 a b pv).1 lim true true) ((Sort.partition ltInt d3 a b pv).1 + 1) b lim (decide ((Sort.partition ltInt d3 a b pv).1 - a ≥ (b - a) / 8)) (Sort.partition ltInt d3 a b pv).2.1
                      else pdq ltInt (pdq ltInt (Sort.partition ltInt d3 a b pv).2.2 ((Sort.partition ltInt d3 a b pv).1 + 1) b lim true true) a (Sort.partition ltInt d3 a b pv).1 lim (decide (b - (Sort.partition ltInt d3 a b pv).1 ≥ (b - a) / 8)) (Sort.partition ltInt d3 a b pv).2.1) = D) := by
                      have t := HRS.out
                      unfold pdqRest at t
                      rw [if_neg (by rw [decide_eq_false (by omega : ¬ a > 0)]; simp)] at t
                      exact t
                    have hu := partition_holds (lt := ltInt) swo_ltInt d3 a b pv p1 p2 (by omega)
                    have u1 := hu.1
                    have u2 := hu.2.1
                    have u3 := hu.2.2.1.1
                    rw [hs3] at u3
                    have HT : Hid (∀ W, Rw w blk off d3 W → Calls Tryd.prog 94 #[.slice (some ⟨blk, off, none⟩) len cap, .int .i64 a, .int .i64 b, .int .i64 pv] W fun e w' => e = .returned (.tuple #[.int .i64 (((Sort.partition ltInt d3 a b pv).1 : Nat) : Int), .bool (Sort.partition ltInt d3 a b pv).2.1]) ∧ Rw w blk off (Sort.partition ltInt d3 a b pv).2.2 w') := fun W hW => CT.out a b pv d3 W hW hs3 p1 p2 hbl
                    clear hu
                    generalize Sort.partition ltInt d3 a b pv = q at *
                    obtain ⟨mid, ap, d4⟩ := q
                    simp only [] at HN HT u1 u2 u3
                    obtain ⟨ll, hll⟩ : ∃ ll : Nat, mid - a = ll := ⟨_, rfl⟩
                    obtain ⟨rr, hrr⟩ : ∃ rr : Nat, b - mid = rr := ⟨_, rfl⟩
                    obtain ⟨t8, ht8⟩ : ∃ t8 : Nat, l / 8 = t8 := ⟨_, rfl⟩
                    have y5 : (mid : Int) - (a : Int) = (ll : Int) := by omega
                    have y6 : (b : Int) - (mid : Int) = (rr : Int) := by omega
                    have y7 : (l : Int) / 8 = (t8 : Int) := by omega
                    rw [hll, hrr, hl, ht8] at HN
                    by_cases hlr : ll < rr
                    · have HN2 : Hid (pdq ltInt (pdq ltInt d4 (a) (mid) lim true true) (mid + 1) (b) lim (decide (ll ≥ t8)) ap = D) := (by have t := HN.out; rw [if_pos hlr] at t; exact t : pdq ltInt (pdq ltInt d4 (a) (mid) lim true true) (mid + 1) (b) lim (decide (ll ≥ t8)) ap = D)
                      have HI : Hid (∀ W, Rw w blk off d4 W → Calls Tryd.prog 79 #[.slice (some ⟨blk, off, none⟩) len cap, .int .i64 ((a : Int)), .int .i64 ((mid : Int)), .int .i64 lim] W fun e w' => e = .returned (.tuple #[]) ∧ Rw w blk off (pdq ltInt d4 (a) (mid) lim true true) w' ∧ (pdq ltInt d4 (a) (mid) lim true true).size = len) := fun W hW => by
                        have t := IH.out (a) (mid) lim d4 W hW (by omega) (by omega) (by omega) u3 hlm
                        exact t
                      go_wp2
                      go_quiet (first | (go_at_call 92; refine Calls.quiet_of_same (less67 _ _ _)))
                      have HRq : Hid (Rw w blk off d3 (wc.drewN nq)) := HR3.out.drewN _
                      clear hcw hfw
                      generalize wc.drewN nq = wq at *
                      go_wp2_with fail
                      refine (HT.out _ HRq.out).mono ?_
                      rintro e w5 ⟨rfl, hr⟩
                      have H5 : Hid (Rw w blk off d4 w5) := hr
                      clear hr
                      go_wp2_with fail
                      refine (HI.out _ H5.out).mono ?_
                      rintro e w6 ⟨rfl, hr, hz⟩
                      have H6 : Hid (Rw w blk off (pdq ltInt d4 (a) (mid) lim true true) w6) := hr
                      clear hr
                      go_wp2
                      go_roundw
                      case rel => exact ⟨mid + 1, b, lim, decide (ll ≥ t8), ap, _, by go_num, rfl, rfl, by congr 1, rfl, by omega, by omega, by omega, hlm, hz, H6.out, HN2.out⟩
                      case measure => simp [intOf]; omega
                    · have HN2 : Hid (pdq ltInt (pdq ltInt d4 (mid + 1) (b) lim true true) (a) (mid) lim (decide (rr ≥ t8)) ap = D) := (by have t := HN.out; rw [if_neg hlr] at t; exact t : pdq ltInt (pdq ltInt d4 (mid + 1) (b) lim true true) (a) (mid) lim (decide (rr ≥ t8)) ap = D)
                      have HI : Hid (∀ W, Rw w blk off d4 W → Calls Tryd.prog 79 #[.slice (some ⟨blk, off, none⟩) len cap, .int .i64 ((mid : Int) + 1), .int .i64 ((b : Int)), .int .i64 lim] W fun e w' => e = .returned (.tuple #[]) ∧ Rw w blk off (pdq ltInt d4 (mid + 1) (b) lim true true) w' ∧ (pdq ltInt d4 (mid + 1) (b) lim true true).size = len) := fun W hW => by
                        have t := IH.out (mid + 1) (b) lim d4 W hW (by omega) (by omega) (by omega) u3 hlm
                        rw [show ((mid + 1 : Nat) : Int) = (mid : Int) + 1 by omega] at t; exact t
                      go_wp2
                      go_quiet (first | (go_at_call 92; refine Calls.quiet_of_same (less67 _ _ _)))
                      have HRq : Hid (Rw w blk off d3 (wc.drewN nq)) := HR3.out.drewN _
                      clear hcw hfw
                      generalize wc.drewN nq = wq at *
                      go_wp2_with fail
                      refine (HT.out _ HRq.out).mono ?_
                      rintro e w5 ⟨rfl, hr⟩
                      have H5 : Hid (Rw w blk off d4 w5) := hr
                      clear hr
                      go_wp2_with fail
                      refine (HI.out _ H5.out).mono ?_
                      rintro e w6 ⟨rfl, hr, hz⟩
                      have H6 : Hid (Rw w blk off (pdq ltInt d4 (mid + 1) (b) lim true true) w6) := hr
                      clear hr
                      go_wp2
                      go_roundw
                      case rel => exact ⟨a, mid, lim, decide (rr ≥ t8), ap, _, rfl, rfl, rfl, by congr 1, rfl, by omega, by omega, by omega, hlm, hz, H6.out, HN2.out⟩
                      case measure => simp [intOf]; omega
end
section
open Go.RowKit Go.Shelf Go.Sort
set_option maxHeartbeats 1000000 in
theorem sort56 (blk off len cap : Nat) (d : Array Int) (w : World) (hH : Rw w blk off d w) (hsz : d.size = len) (hs : len ≤ 65536) :
    Calls Tryd.prog 67 #[.slice (some ⟨blk, off, none⟩) len cap] w fun e w' => e = .returned (.tuple #[]) ∧ Rw w blk off (Sort.sort ltInt d) w' := by
  have hk : bitsLen len ≤ 17 := (bitsLen_le_iff len 17).2 (by omega)
  have HL : Hid (∀ w, Calls Tryd.prog 80 #[.int .u64 len] w fun e w' => e = .returned (.int .i64 (bitsLen len : Nat)) ∧ w' = w) := len60 len hs
  have HP : Hid (Calls Tryd.prog 79 #[.slice (some ⟨blk, off, none⟩) len cap, .int .i64 0, .int .i64 len, .int .i64 (bitsLen len : Nat)] w fun e w' => e = .returned (.tuple #[]) ∧ Rw w blk off (Sort.sort ltInt d) w') := by
    have t := pdq59 blk off len cap hs (len + 1) 0 len (bitsLen len) d w (by omega) (by omega) (Nat.le_refl _) hsz hH (by omega)
    have e : Sort.sort ltInt d = pdq ltInt d 0 len (bitsLen len) true true := by unfold Sort.sort; rw [hsz]
    rw [e]
    exact t
  have wr : IntKind.u64.wrap (len : Int) = len := by simp [IntKind.wrap, IntKind.bits, IntKind.signed]; omega
  generalize bitsLen len = k at *
  clear hH
  go_enter Tryd.func67, Tryd.ntmps67
  go_wp2_with fail
  refine (HL.out _).mono ?_
  rintro e w1 ⟨rfl, e1⟩
  subst e1
  go_wp2_with fail
  refine HP.out.mono ?_
  rintro e w2 ⟨rfl, hr⟩
  have H2 : Hid (Rw w1 blk off (Sort.sort ltInt d) w2) := hr
  clear hr
  go_wp2
  go_end0
  exact ⟨rfl, H2.out⟩
set_option maxHeartbeats 1000000 in
theorem ins61_nil (w : World) : Calls Tryd.prog 86 #[.slice none 0 0, .int .i64 0, .int .i64 0] w fun e w' => e = .returned (.tuple #[]) ∧ w' = w := by
  go_enter Tryd.func86, Tryd.ntmps86
  go_wp2_with fail
  go_loopw [6] (fun x wr => x = .int .i64 1 ∧ wr = w) (fun _ _ => 0)
  case atStart => exact ⟨rfl, rfl⟩
  case round =>
    obtain ⟨rfl, rfl⟩ := hrel
    go_wp2
    go_end0
    exact ⟨rfl, rfl⟩
set_option maxHeartbeats 1000000 in
theorem pdq59_nil (w : World) : Calls Tryd.prog 79 #[.slice none 0 0, .int .i64 0, .int .i64 0, .int .i64 0] w fun e w' => e = .returned (.tuple #[]) ∧ w' = w := by
  go_enter Tryd.func79, Tryd.ntmps79
  go_wp2_with fail
  go_loopw [1, 2, 3, 8, 9] (fun a b c d e wr => a = .int .i64 0 ∧ b = .int .i64 0 ∧ c = .int .i64 0 ∧ d = .bool true ∧ e = .bool true ∧ wr = w) (fun _ _ _ _ _ _ => 0)
  case atStart => exact ⟨rfl, rfl, rfl, rfl, rfl, rfl⟩
  case round =>
    obtain ⟨rfl, rfl, rfl, rfl, rfl, rfl⟩ := hrel
    go_wp2_with fail
    refine (ins61_nil _).mono ?_
    rintro e w1 ⟨rfl, e1⟩
    subst e1
    go_wp2
    refine bodyPost_ret (results_none rfl _ _ _) rfl ?_
    exact ⟨rfl, rfl⟩
set_option maxHeartbeats 1000000 in
theorem sort56_nil (w : World) : Calls Tryd.prog 67 #[.slice none 0 0] w fun e w' => e = .returned (.tuple #[]) ∧ w' = w := by
  have HL : Hid (∀ w, Calls Tryd.prog 80 #[.int .u64 0] w fun e w' => e = .returned (.int .i64 0) ∧ w' = w) := fun w => len60 0 (by omega) w
  go_enter Tryd.func67, Tryd.ntmps67
  go_wp2_with fail
  refine (HL.out _).mono ?_
  rintro e w1 ⟨rfl, e1⟩
  subst e1
  go_wp2_with fail
  refine (pdq59_nil _).mono ?_
  rintro e w2 ⟨rfl, e2⟩
  subst e2
  go_wp2
  go_end0
  exact ⟨rfl, rfl⟩
/-- What is sorted, as a list. -/
theorem sort_list (zs : List Int) : (Sort.sort ltInt zs.toArray).toList = zs.mergeSort (fun x y => decide (x ≤ y)) := Sort.sortInt zs
end
end Go.Proofs.YtnmpbihpoefeoaaDoor
