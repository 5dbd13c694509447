/- Tokens as a source: the document's walk. -/
import Derived.Test.YtgdbfedagdlgkaaDoorQ4
namespace Go.Proofs.YtgdbfedagdlgkaaDoor
open Go.RowKit Go.Shelf
/-- What stands where k tokens are printed, by the document. -/
def Rz (l : List Tj) (w : World) (k : Nat) (v : Value) (wx : World) : Prop := Below w.heap.size w wx ∧ v = .string ⟨(prt (l.take k)).toArray⟩ ∧ (l.take k).all fmT = true ∧ (prt (l.take k)).length ≤ 65 * k
set_option maxRecDepth 100000 in
set_option maxHeartbeats 4000000 in
theorem print18 (l : List Tj) (va : Value) (w : World) (hT : Tb w) (hA : TjA w va l) : Calls Tryd.prog 18 #[va] w fun e w' => e = .returned (.tuple #[.string (prS l), .int .i64 (prE l)]) ∧ Below w.heap.size w w' := by
  obtain ⟨ao, c, rfl, hc, hc2, hok, hcell⟩ := hA
  obtain ⟨n, hn⟩ : ∃ n, n = l.length := ⟨_, rfl⟩
  have HT : Hid (Tb w) := hT
  have HN : Hid (n = l.length) := hn
  have HO : Hid (∀ x ∈ l, okT x) := hok
  have HC : Hid (0 < n → ∃ g o, ao = some ⟨g, o, none⟩ ∧ ∀ i x, l[i]? = some x → ∀ j y, (tjc x)[j]? = some y → w.cell? ⟨g, o + i * 5 + j, none⟩ = some y) := by rw [hn]; exact hcell
  unfold prS prE
  rw [← hn] at hc ⊢
  clear hT hok hcell hn
  have c42 := cells42
  by_cases h6 : 65536 < n
  · rw [if_pos h6, if_pos h6]
    go_enter Tryd.func18, Tryd.ntmps18
    go_wp2
    go_ret2
    exact ⟨rfl, Below.refl _ _⟩
  · rw [if_neg h6, if_neg h6]
    obtain ⟨S, hS⟩ : ∃ S, S = (if l.all fmT = true then (⟨(prt l).toArray⟩ : ByteArray) else ⟨#[]⟩) := ⟨_, rfl⟩
    obtain ⟨Z, hZ⟩ : ∃ Z : Int, Z = (if l.all fmT = true then 0 else 8) := ⟨_, rfl⟩
    rw [← hS, ← hZ]
    have HF : Hid (l.all fmT = false → S = ⟨#[]⟩ ∧ Z = 8) := fun h => by rw [hS, hZ, h]; exact ⟨rfl, rfl⟩
    have HG : Hid (l.all fmT = true → S = ⟨(prt l).toArray⟩ ∧ Z = 0) := fun h => by rw [hS, hZ, h]; exact ⟨rfl, rfl⟩
    clear hS hZ
    go_enter Tryd.func18, Tryd.ntmps18
    go_wp2
    have HR0 : Hid (Rz l w 0 (.string ⟨#[]⟩) w) := ⟨Below.refl _ _, by simp [prt], rfl, by simp [prt]⟩
    go_loopw [4, 12] (fun v i wx => ∃ k : Nat, k ≤ n ∧ i = .int .i64 k ∧ Rz l w k v wx) (fun _ i _ => n - (intOf i).toNat)
    case atStart => exact ⟨0, Nat.zero_le _, rfl, HR0.out⟩
    case round =>
      obtain ⟨k, hk, rfl, hr⟩ := hrel
      by_cases hlt : k < n
      · obtain ⟨x, hx⟩ : ∃ x, l[k]? = some x := ⟨_, List.getElem?_eq_getElem (by have := HN.out; omega)⟩
        obtain ⟨g, o, rfl, hcl⟩ := HC.out (by omega)
        have hxo := HO.out x (List.mem_of_getElem? hx)
        obtain ⟨hbw, rfl, hall, hlen⟩ := hr
        obtain ⟨y0, y1, y2, y3, y4⟩ := tj_cells hcl hx
        have hg : g < w.heap.size := World.block_lt_of_cell? _ _ y0
        have a0 := ((bcell hbw).1 g (o + k * 5) hg).trans y0
        have a1 := ((bcell hbw).1 g (o + k * 5 + 1) hg).trans y1
        have a2 := ((bcell hbw).1 g (o + k * 5 + 2) hg).trans y2
        have a3 := ((bcell hbw).1 g (o + k * 5 + 3) hg).trans y3
        have a4 := ((bcell hbw).1 g (o + k * 5 + 4) hg).trans y4
        have hsn : prt (l.take (k + 1)) = stp (prt (l.take k)) x := by rw [take_next hx, prt_snoc]
        have hal : (l.take (k + 1)).all fmT = fmT x := by rw [take_next hx]; simp [hall]
        have hml : fmT x = false → l.all fmT = false := fun h => by
          rw [← Bool.not_eq_true, List.all_eq_true]
          intro hh
          rw [hh x (List.mem_of_getElem? hx)] at h
          cases h
        have hfm : fmT x = (rgB x.k x.t.data.toList x.v && !(decide (x.k = 5) && !(x.t.data.toList == []))) := formed_same _ _ _ _ hxo.2.2
        have hsh : fmT x = true → x.t.data.toList.length ≤ 64 := fun h => fm_short hxo h
        have H41 : Hid (∀ W, Below w.heap.size w W → Calls Tryd.prog 41 #[tkv x.k x.t x.v x.fr x.en] W fun e w' => e = .returned (.bool (rgB x.k x.t.data.toList x.v)) ∧ Below W.heap.size W w') := fun W hW => right41 x.k x.v x.fr x.en x.t W (HT.out.below hW (Nat.le_refl _)) hxo.1 hxo.2.1 hxo.2.2
        have HSN : Hid _ := And.intro hsn (And.intro hal (And.intro hml (And.intro hsh hfm)))
        clear hsn hal hml hsh hfm y0 y1 y2 y3 y4 hcl hx
        generalize fmT x = fm at *
        have hst : ∀ A, stp A x = if x.k = 5 then A else if A = [] then x.t.data.toList else A ++ [32] ++ x.t.data.toList := fun _ => rfl
        obtain ⟨K, T, V, F, E⟩ := x
        simp only at *
        unfold tkv at H41
        generalize rgB K T.data.toList V = rg at *
        have HBW : Hid (Below w.heap.size w wr) := hbw
        have HLN : Hid ((prt (l.take k)).length ≤ 65 * k) := hlen
        have HST : Hid (stp (prt (l.take k)) ⟨K, T, V, F, E⟩ = if K = 5 then (prt (l.take k)) else if (prt (l.take k)) = [] then T.data.toList else (prt (l.take k)) ++ [32] ++ T.data.toList) := hst _
        clear hst
        have hwz := hbw.size
        clear hbw hlen hall
        generalize prt (l.take k) = acc at *
        obtain ⟨A, hA⟩ : ∃ A : ByteArray, A = ⟨acc.toArray⟩ := ⟨_, rfl⟩
        rw [← hA]
        have hAl : A.data.toList = acc := by rw [hA]
        have HAL : Hid (A.data.toList = acc) := hAl
        have hAs : A.size = acc.length := by rw [← hAl]; exact (len_of A).symm
        clear hA hAl
        cases rg
        · have hff : fm = false := by rw [HSN.out.2.2.2.2]; rfl
          obtain ⟨rfl, rfl⟩ := HF.out (HSN.out.2.2.1 hff)
          go_wp2_with fail
          refine (H41.out _ (HBW.out.alloc HBW.out.size _)).mono ?_
          rintro e w1 ⟨rfl, hb⟩
          have HB1 : Hid (Below w.heap.size w w1) := (HBW.out.alloc HBW.out.size _).trans (hb.mono (by simp; omega))
          clear hb
          go_wp2
          go_ret2
          exact ⟨rfl, HB1.out⟩
        · by_cases h5 : K = 5
          · subst h5
            by_cases ht : T.data.toList = []
            · obtain rfl : T = ⟨#[]⟩ := bytes_ext (by simpa using ht)
              have hff : fm = true := by rw [HSN.out.2.2.2.2]; rfl
              have HR : Hid (∀ W, Below w.heap.size w W → Rz l w (k + 1) (.string A) W) := fun W hW => ⟨hW, by rw [HSN.out.1, HST.out, if_pos rfl, ← HAL.out], by rw [HSN.out.2.1, hff], by rw [HSN.out.1, HST.out, if_pos rfl]; have := HLN.out; omega⟩
              go_wp2_with fail
              refine (H41.out _ (HBW.out.alloc HBW.out.size _)).mono ?_
              rintro e w1 ⟨rfl, hb⟩
              have HB1 : Hid (Below w.heap.size w w1) := (HBW.out.alloc HBW.out.size _).trans (hb.mono (by simp; omega))
              obtain ⟨e0, e1⟩ : w1.cell? ⟨wr.heap.size, 0, none⟩ = some (.int .i64 5) ∧ w1.cell? ⟨wr.heap.size, 1, none⟩ = some (.string ⟨#[]⟩) := ⟨by rw [(bcell hb).1 _ _ (by simp)]; simp, by rw [(bcell hb).1 _ _ (by simp)]; simp⟩
              clear hb
              go_wp2
              exact ⟨⟨k + 1, by omega, by go_num, HR.out _ HB1.out⟩, by simp [intOf]; omega⟩
            · have hne : T.toList.isEmpty = false := by rw [ByteArray.toList_eq]; simpa using ht
              have hff : fm = false := by rw [HSN.out.2.2.2.2, show (T.data.toList == []) = false by simpa using ht]; rfl
              obtain ⟨rfl, rfl⟩ := HF.out (HSN.out.2.2.1 hff)
              go_wp2_with fail
              refine (H41.out _ (HBW.out.alloc HBW.out.size _)).mono ?_
              rintro e w1 ⟨rfl, hb⟩
              have HB1 : Hid (Below w.heap.size w w1) := (HBW.out.alloc HBW.out.size _).trans (hb.mono (by simp; omega))
              obtain ⟨e0, e1⟩ : w1.cell? ⟨wr.heap.size, 0, none⟩ = some (.int .i64 5) ∧ w1.cell? ⟨wr.heap.size, 1, none⟩ = some (.string T) := ⟨by rw [(bcell hb).1 _ _ (by simp)]; simp, by rw [(bcell hb).1 _ _ (by simp)]; simp⟩
              clear hb
              go_wp2
              go_ret2
              exact ⟨rfl, HB1.out⟩
          · have h5b : (K == 5) = false := by simpa using h5
            have hff : fm = true := by rw [HSN.out.2.2.2.2]; simp [h5]
            have hT6 : T.size ≤ 64 := by rw [← len_of]; exact HSN.out.2.2.2.1 hff
            have hac : acc.length ≤ 10000000 := by have := HLN.out; omega
            have HLQ : Hid ((stp acc ⟨K, T, V, F, E⟩).length ≤ 65 * (k + 1)) := by have := stp_short acc ⟨K, T, V, F, E⟩ (HSN.out.2.2.2.1 hff); have := HLN.out; show _ ≤ _; omega
            have HR : Hid (∀ W R, Below w.heap.size w W → R.data.toList = stp acc ⟨K, T, V, F, E⟩ → Rz l w (k + 1) (.string R) W) := fun W R hW hR => ⟨hW, by rw [HSN.out.1, ← hR], by rw [HSN.out.2.1, hff], by rw [HSN.out.1]; exact HLQ.out⟩
            by_cases ha : acc = []
            · obtain rfl : A = ⟨#[]⟩ := bytes_ext (by rw [HAL.out, ha])
              go_wp2_with fail
              refine (H41.out _ (HBW.out.alloc HBW.out.size _)).mono ?_
              rintro e w1 ⟨rfl, hb⟩
              have HB1 : Hid (Below w.heap.size w w1) := (HBW.out.alloc HBW.out.size _).trans (hb.mono (by simp; omega))
              obtain ⟨e0, e1⟩ : w1.cell? ⟨wr.heap.size, 0, none⟩ = some (.int .i64 K) ∧ w1.cell? ⟨wr.heap.size, 1, none⟩ = some (.string T) := ⟨by rw [(bcell hb).1 _ _ (by simp)]; simp, by rw [(bcell hb).1 _ _ (by simp)]; simp⟩
              clear hb
              have hb1 : ¬ 9223372036854775807 < (⟨#[]⟩ : ByteArray).size + T.size := by simp; omega
              go_wp2
              exact ⟨⟨k + 1, by omega, by go_num, HR.out _ _ HB1.out (by rw [HST.out, if_neg h5, if_pos ha]; simp)⟩, by simp [intOf]; omega⟩
            · have hne : A.toList.isEmpty = false := by rw [ByteArray.toList_eq, HAL.out]; simpa using ha
              go_wp2_with fail
              refine (H41.out _ (HBW.out.alloc HBW.out.size _)).mono ?_
              rintro e w1 ⟨rfl, hb⟩
              have HB1 : Hid (Below w.heap.size w w1) := (HBW.out.alloc HBW.out.size _).trans (hb.mono (by simp; omega))
              obtain ⟨e0, e1⟩ : w1.cell? ⟨wr.heap.size, 0, none⟩ = some (.int .i64 K) ∧ w1.cell? ⟨wr.heap.size, 1, none⟩ = some (.string T) := ⟨by rw [(bcell hb).1 _ _ (by simp)]; simp, by rw [(bcell hb).1 _ _ (by simp)]; simp⟩
              clear hb
              have hb1 : ¬ 9223372036854775807 ≤ A.size := by omega
              have hb2 : ¬ 9223372036854775807 < A.size + 1 + T.size := by omega
              go_wp2
              exact ⟨⟨k + 1, by omega, by go_num, HR.out _ _ HB1.out (by rw [HST.out, if_neg h5, if_neg ha]; simp [HAL.out])⟩, by simp [intOf]; omega⟩
      · obtain rfl : k = n := by omega
        obtain ⟨hbw, rfl, hall, hlen⟩ := hr
        have hta : l.take k = l := List.take_of_length_le (by have := HN.out; omega)
        rw [hta] at hall hlen ⊢
        obtain ⟨rfl, rfl⟩ := HG.out hall
        have HBW : Hid (Below w.heap.size w wr) := hbw
        clear hbw hall hlen
        go_wp2
        go_ret2
        exact ⟨rfl, HBW.out⟩
end Go.Proofs.YtgdbfedagdlgkaaDoor
