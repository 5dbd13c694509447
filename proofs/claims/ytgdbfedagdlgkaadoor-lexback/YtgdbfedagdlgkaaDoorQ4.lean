/- Tokens as a source: the program's walk. -/
import Derived.Test.YtgdbfedagdlgkaaDoorQ3
namespace Go.Proofs.YtgdbfedagdlgkaaDoor
open Go.RowKit Go.Shelf
theorem bc_app (a b : List UInt8) : Lib.byteCells a ++ Lib.byteCells b = Lib.byteCells (a ++ b) := by simp [Lib.byteCells]
theorem tj_cells {W : World} {g o : Nat} {l : List Tj} {k : Nat} {x : Tj} (h : ∀ i x, l[i]? = some x → ∀ j y, (tjc x)[j]? = some y → W.cell? ⟨g, o + i * 5 + j, none⟩ = some y) (hx : l[k]? = some x) : W.cell? ⟨g, o + k * 5, none⟩ = some (.int .i64 x.k) ∧ W.cell? ⟨g, o + k * 5 + 1, none⟩ = some (.string x.t) ∧ W.cell? ⟨g, o + k * 5 + 2, none⟩ = some (.int .i64 x.v) ∧ W.cell? ⟨g, o + k * 5 + 3, none⟩ = some (.int .i64 x.fr) ∧ W.cell? ⟨g, o + k * 5 + 4, none⟩ = some (.int .i64 x.en) :=
  ⟨h k x hx 0 _ rfl, h k x hx 1 _ rfl, h k x hx 2 _ rfl, h k x hx 3 _ rfl, h k x hx 4 _ rfl⟩
/-- What stands where k tokens are printed. -/
def Rp (l : List Tj) (w : World) (k : Nat) (wx : World) : Prop := Below w.heap.size w wx ∧ Lib.IsBuilder 57 5 w.heap.size w.heap.size (Lib.byteCells (prt (l.take k))) wx ∧ (l.take k).all fmT = true ∧ (prt (l.take k)).length ≤ 65 * k
set_option maxRecDepth 100000 in
set_option maxHeartbeats 4000000 in
theorem print17 (l : List Tj) (va : Value) (w : World) (hT : Tb w) (hA : TjA w va l) : Calls Tryd.prog 17 #[va] w fun e w' => e = .returned (.tuple #[.string (prS l), .int .i64 (prE l)]) ∧ Below w.heap.size w w' := by
  obtain ⟨ao, c, rfl, hc, hc2, hok, hcell⟩ := hA
  obtain ⟨n, hn⟩ : ∃ n, n = l.length := ⟨_, rfl⟩
  have HT : Hid (Tb w) := hT
  have HN : Hid (n = l.length) := hn
  have HO : Hid (∀ x ∈ l, okT x) := hok
  have HC : Hid (0 < n → ∃ g o, ao = some ⟨g, o, none⟩ ∧ ∀ i x, l[i]? = some x → ∀ j y, (tjc x)[j]? = some y → w.cell? ⟨g, o + i * 5 + j, none⟩ = some y) := by rw [hn]; exact hcell
  unfold prS prE
  rw [← hn] at hc ⊢
  clear hT hok hcell hn
  have c42 := cells42
  by_cases h6 : 65536 < n
  · rw [if_pos h6, if_pos h6]
    go_enter Tryd.func17, Tryd.ntmps17
    go_wp2
    go_ret2
    exact ⟨rfl, Below.refl _ _⟩
  · rw [if_neg h6, if_neg h6]
    obtain ⟨S, hS⟩ : ∃ S, S = (if l.all fmT = true then (⟨(prt l).toArray⟩ : ByteArray) else ⟨#[]⟩) := ⟨_, rfl⟩
    obtain ⟨Z, hZ⟩ : ∃ Z : Int, Z = (if l.all fmT = true then 0 else 8) := ⟨_, rfl⟩
    rw [← hS, ← hZ]
    have HF : Hid (l.all fmT = false → S = ⟨#[]⟩ ∧ Z = 8) := fun h => by rw [hS, hZ, h]; exact ⟨rfl, rfl⟩
    have HG : Hid (l.all fmT = true → S = ⟨(prt l).toArray⟩ ∧ Z = 0) := fun h => by rw [hS, hZ, h]; exact ⟨rfl, rfl⟩
    clear hS hZ
    go_enter Tryd.func17, Tryd.ntmps17
    go_wp2
    have HR0 : Hid (Rp l w 0 (w.alloc (.cells #[.pointer none, .slice none 0 0] 57))) := ⟨below_cells _ _ _, by simpa [prt, Lib.byteCells] using Lib.fresh_isBuilder 57 5 w, rfl, by simp [prt]⟩
    generalize w.alloc (.cells #[.pointer none, .slice none 0 0] 57) = W0 at *
    go_loopw [12] (fun i wx => ∃ k : Nat, k ≤ n ∧ i = .int .i64 k ∧ Rp l w k wx) (fun i _ => n - (intOf i).toNat)
    case atStart => exact ⟨0, Nat.zero_le _, rfl, HR0.out⟩
    case round =>
      obtain ⟨k, hk, rfl, hr⟩ := hrel
      by_cases hlt : k < n
      · obtain ⟨x, hx⟩ : ∃ x, l[k]? = some x := ⟨_, List.getElem?_eq_getElem (by have := HN.out; omega)⟩
        obtain ⟨g, o, rfl, hcl⟩ := HC.out (by omega)
        have hxo := HO.out x (List.mem_of_getElem? hx)
        obtain ⟨hbw, hbd, hall, hlen⟩ := hr
        obtain ⟨y0, y1, y2, y3, y4⟩ := tj_cells hcl hx
        have hg : g < w.heap.size := World.block_lt_of_cell? _ _ y0
        have a0 := ((bcell hbw).1 g (o + k * 5) hg).trans y0
        have a1 := ((bcell hbw).1 g (o + k * 5 + 1) hg).trans y1
        have a2 := ((bcell hbw).1 g (o + k * 5 + 2) hg).trans y2
        have a3 := ((bcell hbw).1 g (o + k * 5 + 3) hg).trans y3
        have a4 := ((bcell hbw).1 g (o + k * 5 + 4) hg).trans y4
        have hsn : prt (l.take (k + 1)) = stp (prt (l.take k)) x := by rw [take_next hx, prt_snoc]
        have hal : (l.take (k + 1)).all fmT = fmT x := by rw [take_next hx]; simp [hall]
        have hml : fmT x = false → l.all fmT = false := fun h => by
          rw [← Bool.not_eq_true, List.all_eq_true]
          intro hh
          rw [hh x (List.mem_of_getElem? hx)] at h
          cases h
        have hfm : fmT x = fmB x.k x.t.data.toList x.v (Lib.decodeGo x.t).2 := rfl
        have hsh : fmT x = true → x.t.data.toList.length ≤ 64 := fun h => fm_short hxo h
        have H36 : Hid (∀ W, Below w.heap.size w W → Calls Tryd.prog 36 #[tkv x.k x.t x.v x.fr x.en] W fun e w' => e = .returned (.bool (fmT x)) ∧ Below W.heap.size W w') := fun W hW => formed36 x.k x.v x.fr x.en x.t W (HT.out.below hW (Nat.le_refl _)) (by have := hxo.1; omega) hxo.2.1 hxo.2.2
        have h5 : fmT x = true → x.k = 5 → x.t = ⟨#[]⟩ := fun h e => by
          rw [hfm] at h
          unfold fmB at h
          rw [if_pos e] at h
          exact bytes_ext (by simpa using h)
        have HSN : Hid _ := And.intro hsn (And.intro hal (And.intro hml (And.intro hsh h5)))
        clear hsn hal hml hsh hfm h5 y0 y1 y2 y3 y4 hcl hx
        generalize hFM : fmT x = fm at *
        have hst : ∀ A, stp A x = if x.k = 5 then A else if A = [] then x.t.data.toList else A ++ [32] ++ x.t.data.toList := fun _ => rfl
        obtain ⟨K, T, V, F, E⟩ := x
        simp only at *
        unfold tkv at H36
        have HBW : Hid (Below w.heap.size w wr) := hbw
        have HBD : Hid (Lib.IsBuilder 57 5 w.heap.size w.heap.size (Lib.byteCells (prt (l.take k))) wr) := hbd
        have HLN : Hid ((prt (l.take k)).length ≤ 65 * k) := hlen
        have HST : Hid (∀ A, stp A ⟨K, T, V, F, E⟩ = if K = 5 then A else if A = [] then T.data.toList else A ++ [32] ++ T.data.toList) := hst
        clear hst
        have hwz := hbw.size
        clear hbw hbd hlen hall
        go_wp2_with fail
        refine (H36.out _ (HBW.out.alloc HBW.out.size _)).mono ?_
        rintro e w1 ⟨rfl, hb⟩
        have hbk : w1.heap[wr.heap.size]? = some (.cells #[.int .i64 K, .string T, .int .i64 V, .int .i64 F, .int .i64 E] 42) := keep_block (by show (wr.heap.push _)[wr.heap.size]? = _; simp) hb
        have e0 : w1.cell? ⟨wr.heap.size, 0, none⟩ = some (.int .i64 K) := Joins.cell_of_block hbk 0
        have e1 : w1.cell? ⟨wr.heap.size, 1, none⟩ = some (.string T) := Joins.cell_of_block hbk 1
        have HBK : Hid (w1.heap[wr.heap.size]? = some (.cells #[.int .i64 K, .string T, .int .i64 V, .int .i64 F, .int .i64 E] 42) ∧ w.heap.size < wr.heap.size) := ⟨hbk, Nat.lt_of_le_of_ne hwz (fun e => HBD.out.elim (fun h => by have := h.lt; omega) (fun h => by have := h.lt; omega))⟩
        clear hbk
        have hb0 : Below wr.heap.size wr w1 := ((Below.refl _ wr).alloc (Nat.le_refl _) _).trans (hb.mono (by simp))
        have HB1 : Hid (Below w.heap.size w w1) := HBW.out.trans (hb0.mono HBW.out.size)
        have HD1 : Hid (Lib.IsBuilder 57 5 w.heap.size w.heap.size (Lib.byteCells (prt (l.take k))) w1) := builder_below HBD.out hb0
        have hz1 : wr.heap.size < w1.heap.size := World.block_lt_of_cell? _ _ e0
        clear hb hb0
        cases fm
        · obtain ⟨rfl, rfl⟩ := HF.out (HSN.out.2.2.1 rfl)
          go_wp2
          go_ret2
          exact ⟨rfl, HB1.out⟩
        · obtain ⟨q1, q2, _, q4, q5⟩ := HSN.out
          have q4 := q4 rfl
          have q5 := q5 rfl
          have HQ : Hid (prt (l.take (k + 1)) = stp (prt (l.take k)) ⟨K, T, V, F, E⟩ ∧ (l.take (k + 1)).all fmT = true ∧ (prt (l.take (k + 1))).length ≤ 65 * (k + 1)) := ⟨q1, q2, by rw [q1]; have := stp_short (prt (l.take k)) ⟨K, T, V, F, E⟩ q4; have := HLN.out; omega⟩
          have hTs : T.size ≤ 64 := by rw [← len_of]; exact q4
          have HST := (show Hid _ from HST.out (prt (l.take k)))
          have hln := HLN.out
          clear q1 q2 q4 HSN HLN
          generalize prt (l.take k) = acc at *
          have hacc : acc.length ≤ 10000000 := by omega
          clear hln
          have H37 : Hid (∀ W, Lib.IsBuilder 57 5 w.heap.size w.heap.size (Lib.byteCells acc) W → Calls Tryd.prog 37 #[.pointer (some ⟨w.heap.size, 0, none⟩)] W fun e w' => e = .returned (.int .i64 acc.length) ∧ w' = W) := fun W h => by
            have t := Tryd.Builder_Len w.heap.size w.heap.size (Lib.byteCells acc) W h
            rw [Lib.byteCells_length] at t
            exact t
          have H38 : Hid (∀ W, Below w.heap.size w W → Lib.IsBuilder 57 5 w.heap.size w.heap.size (Lib.byteCells acc) W → Calls Tryd.prog 38 #[.pointer (some ⟨w.heap.size, 0, none⟩), .int .u8 32] W fun e w' => e = .returned .nilIface ∧ Lib.IsBuilder 57 5 w.heap.size w.heap.size (Lib.byteCells (acc ++ [32])) w' ∧ Below w.heap.size W w' ∧ ∀ i cs t fr, W.heap[i]? = some (.cells cs t fr) → t ≠ 5 → i ≠ w.heap.size → w'.heap[i]? = W.heap[i]?) := fun W hW h => (writeByte38 w.heap.size w.heap.size (Lib.byteCells acc) 32 W h (by rw [Lib.byteCells_length]; omega) hW.size).mono fun _ _ ⟨he, hd, hb, hk⟩ => ⟨he, by rw [Lib.byteCells_append]; exact .inr hd, hb, hk⟩
          have H39 : Hid (∀ W (A : List UInt8), A.length ≤ 10000001 → Below w.heap.size w W → Lib.IsBuilder 57 5 w.heap.size w.heap.size (Lib.byteCells A) W → Calls Tryd.prog 39 #[.pointer (some ⟨w.heap.size, 0, none⟩), .string T] W fun e w' => e = .returned (.tuple #[.int .i64 T.size, .nilIface]) ∧ Lib.IsBuilder 57 5 w.heap.size w.heap.size (Lib.byteCells (A ++ T.data.toList)) w' ∧ Below w.heap.size W w') := fun W A hA hW h => (writeString39 w.heap.size w.heap.size (Lib.byteCells A) T W h (by rw [Lib.byteCells_length]; omega) hW.size).mono fun _ _ ⟨he, hd, hb⟩ => ⟨he, by rw [Lib.byteCells_append, ← Lib.strCells_eq]; exact .inr hd, hb⟩
          by_cases h5 : K = 5
          · obtain rfl := q5 h5
            subst h5
            go_wp2_with fail
            refine (H39.out _ acc (by omega) HB1.out HD1.out).mono ?_
            rintro e w2 ⟨rfl, hd, hb⟩
            have HR : Hid (Rp l w (k + 1) w2) := ⟨HB1.out.trans hb, by rw [HQ.out.1, HST.out]; simpa using hd, HQ.out.2.1, HQ.out.2.2⟩
            clear hd hb
            go_wp2
            exact ⟨⟨k + 1, by omega, by go_num, HR.out⟩, by simp [intOf]; omega⟩
          · have h5b : (K == 5) = false := by simpa using h5
            by_cases ha : acc = []
            · have ha0 : acc.length = 0 := by rw [ha]; rfl
              rw [ha0] at H37
              go_wp2_with (first | (go_at_call 37; refine (H37.out _ HD1.out).mono ?_; rintro e w2 ⟨rfl, rfl⟩) | fail)
              refine (H39.out _ acc (by omega) HB1.out HD1.out).mono ?_
              rintro e w2 ⟨rfl, hd, hb⟩
              have HR : Hid (Rp l w (k + 1) w2) := ⟨HB1.out.trans hb, by rw [HQ.out.1, HST.out, if_neg h5, if_pos ha]; rw [ha] at hd; simpa using hd, HQ.out.2.1, HQ.out.2.2⟩
              clear hd hb
              go_wp2
              exact ⟨⟨k + 1, by omega, by go_num, HR.out⟩, by simp [intOf]; omega⟩
            · have ha0 : 0 < acc.length := List.length_pos_iff.2 ha
              go_wp2_with (first | (go_at_call 37; refine (H37.out _ HD1.out).mono ?_; rintro e w2 ⟨rfl, rfl⟩) | fail)
              refine (H38.out _ HB1.out HD1.out).mono ?_
              rintro e w2 ⟨rfl, hd, hb, hkp⟩
              have HB2 : Hid (Below w.heap.size w w2) := HB1.out.trans hb
              have HD2 : Hid (Lib.IsBuilder 57 5 w.heap.size w.heap.size (Lib.byteCells (acc ++ [32])) w2) := hd
              have hbk : w2.heap[wr.heap.size]? = some (.cells #[.int .i64 K, .string T, .int .i64 V, .int .i64 F, .int .i64 E] 42) := (hkp _ _ _ _ HBK.out.1 (by decide) (by have := HBK.out.2; omega)).trans HBK.out.1
              have f0 : w2.cell? ⟨wr.heap.size, 0, none⟩ = some (.int .i64 K) := Joins.cell_of_block hbk 0
              have f1 : w2.cell? ⟨wr.heap.size, 1, none⟩ = some (.string T) := Joins.cell_of_block hbk 1
              clear hd hb hkp hbk
              go_wp2_with fail
              refine (H39.out _ (acc ++ [32]) (by simp; omega) HB2.out HD2.out).mono ?_
              rintro e w3 ⟨rfl, hd, hb⟩
              have HR : Hid (Rp l w (k + 1) w3) := ⟨HB2.out.trans hb, by rw [HQ.out.1, HST.out, if_neg h5, if_neg ha]; exact hd, HQ.out.2.1, HQ.out.2.2⟩
              clear hd hb
              go_wp2
              exact ⟨⟨k + 1, by omega, by go_num, HR.out⟩, by simp [intOf]; omega⟩
      · obtain rfl : k = n := by omega
        obtain ⟨hbw, hbd, hall, hlen⟩ := hr
        have hta : l.take k = l := List.take_of_length_le (by have := HN.out; omega)
        rw [hta] at hbd hall hlen
        obtain ⟨rfl, rfl⟩ := HG.out hall
        have HBW : Hid (Below w.heap.size w wr) := hbw
        have H40 : Hid (Calls Tryd.prog 40 #[.pointer (some ⟨w.heap.size, 0, none⟩)] wr fun e w' => e = .returned (.string ⟨(prt l).toArray⟩) ∧ Below w.heap.size wr w') := Tryd.Builder_String_any w.heap.size w.heap.size (prt l) wr hbd hbw.size
        clear hbw hbd hall hlen
        go_wp2_with fail
        refine H40.out.mono ?_
        rintro e w2 ⟨rfl, hb⟩
        have HB2 : Hid (Below w.heap.size w w2) := HBW.out.trans hb
        clear hb
        go_wp2
        go_ret2
        exact ⟨rfl, HB2.out⟩
end Go.Proofs.YtgdbfedagdlgkaaDoor
