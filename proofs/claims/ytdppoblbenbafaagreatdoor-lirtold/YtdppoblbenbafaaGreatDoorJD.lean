/- The document's own look at a function: its blocks. -/
import Derived.Test.YtdppoblbenbafaaGreatDoorJC
namespace Go.Proofs.YtdppoblbenbafaaGreatDoor
open Go.RowKit Go.Shelf
set_option maxHeartbeats 8000000
set_option maxRecDepth 20000 in
theorem rright25_body (f : Fnh) (l : List Blk) (w : World) (hs : f.nm.size ≤ maxLen) (hl : f.bl = l.length) (hI : BlkA w f.ba f.bc l) (hn : nmB f.nm.data.toList = true) (h1 : 0 ≤ f.pa) (h2 : f.pa ≤ 7) (h3 : f.pa ≤ f.rg) (h4 : f.rg ≤ 4096) (h5 : 0 ≤ f.fr) (h6 : f.fr ≤ 4096) (h7 : 1 ≤ f.bl) (h8 : f.bl ≤ 1024) : Calls Tryz.prog 25 #[fnhV f] w fun e w' => e = .returned (.bool (blsB f fdN l)) ∧ G w w' := by
  have HN : Hid (∀ w, Calls Tryz.prog 62 #[.string f.nm] w fun e w' => e = .returned (.bool true) ∧ w' = w) := fun w => by
    have t := rname62 f.nm w hs
    rw [hn] at t
    exact t
  have HI : Hid (BlkA w f.ba f.bc l) := hI
  have HL : Hid (f.bl = l.length) := hl
  have hxc : f.bl ≤ f.bc := by have := hI.1; omega
  have hxc2 := hI.2.1
  clear hs hn hI hl
  have HBX : Hid (Bx1 w (w.alloc (.cells #[.string f.nm, .int .i64 f.pa, .int .i64 f.rg, .int .i64 f.fr, .slice f.ba f.bl f.bc] 27)) f) := bx1 w f
  have HE0 : Hid (blsB f fdN l = blsB f fdN (l.drop 0)) := rfl
  have K63 : Hid (∀ (i : Ins) w, ArA w i.ar i.ac i.gs → Calls Tryz.prog 63 #[fnhV f, inV i] w fun e w' => e = .returned (.bool (fdR f i)) ∧ G w w') := fun i w h => rfields63 f i w h
  have K64 : Hid (∀ (i : Ins) w, Calls Tryz.prog 64 #[fnhV f, inV i] w fun e w' => e = .returned (.bool (nuR f.fr i.op i.n i.nm.data.toList)) ∧ G w w') := fun i w => rnumbers64 f i w
  have K65 : Hid (∀ (i : Ins) w, i.nm.size ≤ maxLen → Calls Tryz.prog 65 #[inV i] w fun e w' => e = .returned (.bool (caR i.op i.nm.data.toList i.gs.length)) ∧ G w w') := fun i w h => rcallee65 i w h
  unfold fnhV inV at *
  generalize blsB f fdN l = R at *
  go_enter Tryz.func25, Tryz.ntmps25
  go_wp2_with (first | (go_at_call 62; refine (HN.out _).mono ?_; rintro e w' ⟨rfl, rfl⟩))
  clear h1 h2 h3 h4 h5 h6 HN
  obtain ⟨W, hWe, HX0⟩ : ∃ W, W = w.alloc (.cells #[.string f.nm, .int .i64 f.pa, .int .i64 f.rg, .int .i64 f.fr, .slice f.ba f.bl f.bc] 27) ∧ Hid (Bx1 w W f) := ⟨_, rfl, HBX.out⟩
  rw [← hWe]
  clear hWe HBX
  go_loopw [3, 4, 5] (fun v _ _ wx => ∃ j : Nat, j ≤ f.bl ∧ v = .int .i64 j ∧ G W wx ∧ R = blsB f fdN (l.drop j)) (fun v _ _ _ => f.bl - (intOf v).toNat)
  case atStart => exact ⟨0, Nat.zero_le _, rfl, G.refl _, HE0.out⟩
  case round =>
    obtain ⟨j, hj, rfl, hGx, hRu⟩ := hrel
    generalize wr = V at *
    have HX : Hid (G W V) := hGx
    have HRu : Hid (R = blsB f fdN (l.drop j)) := hRu
    have HY : Hid (Bx1 w V f) := HX0.out.to hGx
    clear hRu HE0 hGx
    obtain ⟨-, -, a0, a1, a2, a3, a4⟩ := HY.out
    by_cases hlt : j < f.bl
    · obtain ⟨b, hi⟩ : ∃ b, l[j]? = some b := ⟨_, List.getElem?_eq_getElem (by have := HL.out; omega)⟩
      obtain ⟨g, oo, hxo, hcc⟩ := (HI.out.below HY.out.g.below).2.2.2 (by have := HL.out; omega)
      have d0 := hcc j b hi
      have HU : Hid (blsB f fdN (l.drop j) = (blkB f fdN b.l && blsB f fdN (l.drop (j + 1)))) := blsB_at f fdN hi
      have HIb : Hid (InsA w b.xo b.xc b.l) := HI.out.2.2.1 b (List.mem_of_getElem? hi)
      have hbc := HIb.out.1
      have hbc2 := HIb.out.2.1
      have HVb : Hid (blkB f fdN b.l = (witB b.l.length 1 4096 && upB f fdN b.l.length b.l 0)) := rfl
      rw [hxo] at a4
      clear hcc hi hxo
      obtain ⟨n, hnn⟩ : ∃ n, n = b.l.length := ⟨_, rfl⟩
      have HNn : Hid (n = b.l.length) := hnn
      rw [← hnn] at hbc d0 HVb
      clear hnn
      generalize b.xo = xo at *
      generalize b.xc = xc at *
      generalize b.l = ll at *
      by_cases n1 : (n : Int) < 1
      case pos =>
        have HE : Hid (false = R) := by
          show _ = _
          rw [HRu.out, HU.out, HVb.out, show witB (n : Int) 1 4096 = false by simp [witB]; omega]
          rfl
        go_wp2
        go_ret
        exact ⟨ret_bool HE.out, HY.out.g⟩
      by_cases n2 : 4096 < (n : Int)
      case pos =>
        have HE : Hid (false = R) := by
          show _ = _
          rw [HRu.out, HU.out, HVb.out, show witB (n : Int) 1 4096 = false by simp [witB]; omega]
          rfl
        go_wp2
        go_ret
        exact ⟨ret_bool HE.out, HY.out.g⟩
      have HE1 : Hid (R = (upB f fdN n (ll.drop 0) (0 + 0) && blsB f fdN (l.drop (j + 1)))) := by
        show _ = _
        rw [HRu.out, HU.out, HVb.out, show witB (n : Int) 1 4096 = true by simp [witB]; omega]
        rfl
      go_wp2_with fail
      clear HVb
      go_loopw [5] (fun v wx => ∃ k : Nat, k ≤ n ∧ v = .int .i64 k ∧ G V wx ∧ R = (upB f fdN n (ll.drop k) (0 + k) && blsB f fdN (l.drop (j + 1)))) (fun v _ => n - (intOf v).toNat)
      case atStart => exact ⟨0, Nat.zero_le _, rfl, G.refl _, HE1.out⟩
      case round =>
        obtain ⟨k, hk, rfl, hGy, hRv⟩ := hrel
        have HX2 : Hid (G V wr) := hGy
        have HRv : Hid (R = (upB f fdN n (ll.drop k) (0 + k) && blsB f fdN (l.drop (j + 1)))) := hRv
        have HY2 : Hid (Bx1 w wr f) := HY.out.to hGy
        clear hRv HE1 hGy a0 a1 a2 a3 a4 d0
        obtain ⟨-, hsz, a0, a1, a2, a3, a4⟩ := HY2.out
        by_cases hkt : k < n
        · obtain ⟨i, hi⟩ : ∃ i, ll[k]? = some i := ⟨_, List.getElem?_eq_getElem (by have := HNn.out; omega)⟩
          have hIw := HIb.out.below HY2.out.g.below
          obtain ⟨g2, o2, hxo2, hcc⟩ := hIw.2.2.2 (by have := HNn.out; omega)
          have hmem := hIw.2.2.1 i (List.mem_of_getElem? hi)
          have e0 := hcc k i hi 0 _ rfl
          have e1 := hcc k i hi 1 _ rfl
          have e2 := hcc k i hi 2 _ rfl
          have e3 := hcc k i hi 3 _ rfl
          have e4 := hcc k i hi 4 _ rfl
          have e5 := hcc k i hi 5 _ rfl
          have e6 := hcc k i hi 6 _ rfl
          have e7 := hcc k i hi 7 _ rfl
          have e8 := hcc k i hi 8 _ rfl
          rw [Nat.add_zero] at e0
          have hgl : g2 < wr.heap.size := World.block_lt_of_cell? _ _ e0
          have HU2 : Hid (upB f fdN n (ll.drop k) (0 + k) = (atB f fdN n (0 + k) i && upB f fdN n (ll.drop (k + 1)) (0 + (k + 1)))) := upB_at f fdN n hi 0
          have HAt : Hid (atB f fdN n (0 + k) i = (fdR f i && (nuR f.fr i.op i.n i.nm.data.toList && (caR i.op i.nm.data.toList i.gs.length && (endB i.op == decide (0 + k + 1 = n)))))) := atN f n (0 + k) i
          have k63 := fun nn os => G.to (w := wr) (n := nn) (os := os) (K63.out i _ (hmem.1.below (G.below ⟨nn, os, rfl⟩)))
          have k64 := fun nn os => G.to (w := wr) (n := nn) (os := os) (K64.out i _)
          have k65 := fun nn os => G.to (w := wr) (n := nn) (os := os) (K65.out i _ hmem.2)
          have k66 := fun nn os => G.same (w := wr) (n := nn) (os := os) (rend66 i.op _)
          clear hcc hi hIw hmem
          subst hxo2
          generalize i.gs.length = al at *
          have u0 := gcell hsz a0
          have u1 := gcell hsz a1
          have u2 := gcell hsz a2
          have u3 := gcell hsz a3
          have u4 := gcell hsz a4
          have v0 := gcell hgl e0
          have v1 := gcell hgl e1
          have v2 := gcell hgl e2
          have v3 := gcell hgl e3
          have v4 := gcell hgl e4
          have v5 := gcell hgl e5
          have v6 := gcell hgl e6
          have v7 := gcell hgl e7
          have v8 := gcell hgl e8
          have hsub : IntKind.i64.wrap ((n : Int) - 1) = (n : Int) - 1 := by simp [IntKind.wrap, IntKind.bits, IntKind.signed]; omega
          generalize fdR f i = XF at *
          generalize nuR f.fr i.op i.n i.nm.data.toList = XN at *
          generalize caR i.op i.nm.data.toList al = XC at *
          generalize hEB : endB i.op = EB at *
          clear hEB
          obtain ⟨UB, hUB⟩ : ∃ UB, UB = upB f fdN n (ll.drop (k + 1)) (0 + (k + 1)) := ⟨_, rfl⟩
          have HUB : Hid (UB = upB f fdN n (ll.drop (k + 1)) (0 + (k + 1))) := hUB
          rw [← hUB] at HU2
          clear hUB
          have HR2 : Hid (R = (((XF && (XN && (XC && (EB == decide (0 + k + 1 = n))))) && UB) && blsB f fdN (l.drop (j + 1)))) := by show _ = _; rw [HRv.out, HU2.out, HAt.out]
          cases XF with
          | false =>
            have HE : Hid (false = R) := by show _ = _; rw [HR2.out]; rfl
            go_wp2_with fail
            refine wp_region_quiet_grown (by kernel_rfl) (by exact lex25) ?_
            repeat (go_big_quiet_step ((first | (go_at_call 63; with_reducible exact k63 _ _) | (go_at_call 64; with_reducible exact k64 _ _) | (go_at_call 65; with_reducible exact k65 _ _) | (go_at_call 66; with_reducible exact k66 _ _))))
            refine wpQuiet_nil ?_
            intro wz hwz
            obtain ⟨⟨nq, osq⟩, hwz2⟩ := hwz
            subst hwz2
            go_wp2
            go_ret
            exact ⟨ret_bool HE.out, HY2.out.g.trans ⟨nq, osq, rfl⟩⟩
          | true =>
            cases XN with
            | false =>
              have HE : Hid (false = R) := by show _ = _; rw [HR2.out]; rfl
              go_wp2_with fail
              refine wp_region_quiet_grown (by kernel_rfl) (by exact lex25) ?_
              repeat (go_big_quiet_step ((first | (go_at_call 63; with_reducible exact k63 _ _) | (go_at_call 64; with_reducible exact k64 _ _) | (go_at_call 65; with_reducible exact k65 _ _) | (go_at_call 66; with_reducible exact k66 _ _))))
              refine wpQuiet_nil ?_
              intro wz hwz
              obtain ⟨⟨nq, osq⟩, hwz2⟩ := hwz
              subst hwz2
              go_wp2
              go_ret
              exact ⟨ret_bool HE.out, HY2.out.g.trans ⟨nq, osq, rfl⟩⟩
            | true =>
              cases XC with
              | false =>
                have HE : Hid (false = R) := by show _ = _; rw [HR2.out]; rfl
                go_wp2_with fail
                refine wp_region_quiet_grown (by kernel_rfl) (by exact lex25) ?_
                repeat (go_big_quiet_step ((first | (go_at_call 63; with_reducible exact k63 _ _) | (go_at_call 64; with_reducible exact k64 _ _) | (go_at_call 65; with_reducible exact k65 _ _) | (go_at_call 66; with_reducible exact k66 _ _))))
                refine wpQuiet_nil ?_
                intro wz hwz
                obtain ⟨⟨nq, osq⟩, hwz2⟩ := hwz
                subst hwz2
                go_wp2
                go_ret
                exact ⟨ret_bool HE.out, HY2.out.g.trans ⟨nq, osq, rfl⟩⟩
              | true =>
                by_cases hkn : k + 1 = n
                · have hd : decide (0 + k + 1 = n) = true := by simp; omega
                  have hq : ((k : Int) == (n : Int) - 1) = true := by simp; omega
                  cases EB with
                  | false =>
                    have HE : Hid (false = R) := by show _ = _; rw [HR2.out, hd]; rfl
                    clear hd
                    go_wp2_with fail
                    refine wp_region_quiet_grown (by kernel_rfl) (by exact lex25) ?_
                    repeat (go_big_quiet_step ((first | (go_at_call 63; with_reducible exact k63 _ _) | (go_at_call 64; with_reducible exact k64 _ _) | (go_at_call 65; with_reducible exact k65 _ _) | (go_at_call 66; with_reducible exact k66 _ _))))
                    refine wpQuiet_nil ?_
                    intro wz hwz
                    obtain ⟨⟨nq, osq⟩, hwz2⟩ := hwz
                    subst hwz2
                    go_wp2
                    go_ret
                    exact ⟨ret_bool HE.out, HY2.out.g.trans ⟨nq, osq, rfl⟩⟩
                  | true =>
                    have HE : Hid (R = (upB f fdN n (ll.drop (k + 1)) (0 + (k + 1)) && blsB f fdN (l.drop (j + 1)))) := by show _ = _; rw [HR2.out, hd, HUB.out]; rfl
                    clear hd
                    go_wp2_with fail
                    refine wp_region_quiet_grown (by kernel_rfl) (by exact lex25) ?_
                    repeat (go_big_quiet_step ((first | (go_at_call 63; with_reducible exact k63 _ _) | (go_at_call 64; with_reducible exact k64 _ _) | (go_at_call 65; with_reducible exact k65 _ _) | (go_at_call 66; with_reducible exact k66 _ _))))
                    refine wpQuiet_nil ?_
                    intro wz hwz
                    obtain ⟨⟨nq, osq⟩, hwz2⟩ := hwz
                    subst hwz2
                    go_wp2
                    go_round
                    case rel => exact ⟨k + 1, by omega, by go_num, HX2.out.trans ⟨nq, osq, rfl⟩, HE.out⟩
                    case measure => simp [intOf]; omega
                · have hd : decide (0 + k + 1 = n) = false := by simp; omega
                  have hq : ((k : Int) == (n : Int) - 1) = false := by simp; omega
                  cases EB with
                  | true =>
                    have HE : Hid (false = R) := by show _ = _; rw [HR2.out, hd]; rfl
                    clear hd
                    go_wp2_with fail
                    refine wp_region_quiet_grown (by kernel_rfl) (by exact lex25) ?_
                    repeat (go_big_quiet_step ((first | (go_at_call 63; with_reducible exact k63 _ _) | (go_at_call 64; with_reducible exact k64 _ _) | (go_at_call 65; with_reducible exact k65 _ _) | (go_at_call 66; with_reducible exact k66 _ _))))
                    refine wpQuiet_nil ?_
                    intro wz hwz
                    obtain ⟨⟨nq, osq⟩, hwz2⟩ := hwz
                    subst hwz2
                    go_wp2
                    go_ret
                    exact ⟨ret_bool HE.out, HY2.out.g.trans ⟨nq, osq, rfl⟩⟩
                  | false =>
                    have HE : Hid (R = (upB f fdN n (ll.drop (k + 1)) (0 + (k + 1)) && blsB f fdN (l.drop (j + 1)))) := by show _ = _; rw [HR2.out, hd, HUB.out]; rfl
                    clear hd
                    go_wp2_with fail
                    refine wp_region_quiet_grown (by kernel_rfl) (by exact lex25) ?_
                    repeat (go_big_quiet_step ((first | (go_at_call 63; with_reducible exact k63 _ _) | (go_at_call 64; with_reducible exact k64 _ _) | (go_at_call 65; with_reducible exact k65 _ _) | (go_at_call 66; with_reducible exact k66 _ _))))
                    refine wpQuiet_nil ?_
                    intro wz hwz
                    obtain ⟨⟨nq, osq⟩, hwz2⟩ := hwz
                    subst hwz2
                    go_wp2
                    go_round
                    case rel => exact ⟨k + 1, by omega, by go_num, HX2.out.trans ⟨nq, osq, rfl⟩, HE.out⟩
                    case measure => simp [intOf]; omega
        · obtain rfl : k = n := by omega
          have HE : Hid (R = blsB f fdN (l.drop (j + 1))) := by show _ = _; rw [HRv.out, List.drop_eq_nil_of_le (by have := HNn.out; omega)]; rfl
          go_wp2
          go_round
          case rel => exact ⟨j + 1, by omega, by go_num, HX.out.trans HX2.out, HE.out⟩
          case measure => simp [intOf]; omega
    · obtain rfl : j = f.bl := by omega
      have HE : Hid (true = R) := by show _ = _; rw [HRu.out, List.drop_eq_nil_of_le (by have := HL.out; omega)]; rfl
      go_wp2
      go_ret
      exact ⟨ret_bool HE.out, HY.out.g⟩
end Go.Proofs.YtdppoblbenbafaaGreatDoor
