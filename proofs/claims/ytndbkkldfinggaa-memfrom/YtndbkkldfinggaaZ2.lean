/- The walk of MemFrom. -/
import Derived.Test.YtndbkkldfinggaaZ1
import Derived.Test.YtndbkkldfinggaaP4
namespace Go.Proofs.Ytndbkkldfinggaa
open Go.RowKit Go.Shelf
set_option maxRecDepth 20000 in
set_option maxHeartbeats 1000000 in
theorem law3 {v : Value} {len : Nat} {k p : Nat → Int} {ao : Nat → Option Addr} {bl bc : Nat → Nat} {Y : Nat → Nat → Int} (w : World) (h : PgArg w v len k p ao bl bc Y) : Calls Try.prog 3 #[v] w fun e w' => e = .returned (.bool true) ∧ Below w.heap.size w w' := by
  obtain ⟨vA, vc, hv, -, -⟩ := h.shape
  have HH : Hid (PgArg w v len k p ao bl bc Y) := h
  clear h
  subst hv
  have HSp : Hid (∀ W, Calls Try.prog 6 #[] W fun e w' => e = .returned (.bool true) ∧ Below W.heap.size W w') := speaks11
  go_enter Try.func3, Try.ntmps3
  go_wp2_with fail
  refine (from_any w HH.out).mono ?_
  rintro e w1 ⟨hb, hcs⟩
  have HB1 : Hid (Below w.heap.size w w1) := hb
  have HWr : Hid (Calls Try.prog 5 #[.slice vA len vc] w1 fun e w' => e = .returned (.int .i64 (errE len k p bl)) ∧ Below w1.heap.size w1 w') := wrong_any w1 (HH.out.below hb)
  clear hb
  rcases hcs with ⟨hne, rfl⟩ | ⟨hz, hl, rfl, ps, hF⟩
  · have hnb : (errE len k p bl != 0) = true := by simpa using hne
    generalize errE len k p bl = er at *
    go_wp2_with fail
    refine HWr.out.mono ?_
    rintro e w2 ⟨rfl, hb⟩
    have HB2 : Hid (Below w.heap.size w w2) := HB1.out.trans (hb.mono HB1.out.size)
    clear hb
    go_wp2_with fail
    refine (HSp.out _).mono ?_
    rintro e w3 ⟨rfl, hb⟩
    have HB3 : Hid (Below w.heap.size w w3) := HB2.out.trans (hb.mono HB2.out.size)
    clear hb
    go_wp2
    go_ret
    exact ⟨rfl, HB3.out⟩
  · have hfe : fromE k p bl len = 0 := by unfold errE at hz; rw [if_neg (by omega)] at hz; exact hz
    rw [hz] at HWr
    have hal := fromE_al len hfe
    have hbl := fromE_bl len hfe
    have hY := HH.out.by_
    have hln := hF.len
    have HF : Hid (Fr w1 (w.heap.size + 1) w.heap.size len k p Y w.heap.size ps) := hF
    have HK : Hid ((∀ i, i < len → k i % 4096 = 0) ∧ (∀ i, i < len → bl i = 4096) ∧ (∀ i j, 0 ≤ Y i j ∧ Y i j < 256)) := ⟨hal, hbl, hY⟩
    clear hF hal hbl hY hfe hz
    go_wp2_with fail
    refine HWr.out.mono ?_
    rintro e w2 ⟨rfl, hb⟩
    have HB2 : Hid (Below w1.heap.size w1 w2) := hb
    clear hb HWr
    go_wp2_with fail
    refine (HSp.out _).mono ?_
    rintro e w3 ⟨rfl, hb⟩
    have HB3 : Hid (Below w1.heap.size w1 w3) := HB2.out.trans (hb.mono HB2.out.size)
    clear hb
    have HF3 : Hid (Fr w3 (w.heap.size + 1) w.heap.size len k p Y w.heap.size ps) := fr_below HF.out HB3.out
    have HCl : Hid (Calls Try.prog 7 #[.pointer (some ⟨w.heap.size + 1, 0, none⟩)] w3 fun e w' => e = .returned (.pointer (some ⟨w3.heap.size + 1, 0, none⟩)) ∧ (∃ qs, Fr w' (w3.heap.size + 1) w3.heap.size len k p Y w3.heap.size qs) ∧ Below w3.heap.size w3 w') := clone16 _ _ _ _ _ _ _ _ w3 HF3.out (by omega)
    go_wp2_with fail
    refine HCl.out.mono ?_
    rintro e w4 ⟨rfl, ⟨qs, hq⟩, hb⟩
    have HB4 : Hid (Below w3.heap.size w3 w4) := hb
    have HW4 : Hid (Below w.heap.size w w4) := HB1.out.trans ((HB3.out.trans (hb.mono HB3.out.size)).mono HB1.out.size)
    have HA4 : Hid (PgArg w4 (.slice vA len vc) len k p ao bl bc Y) := HH.out.below (HW4.out)
    have HP4 : Hid (Fr w4 (w.heap.size + 1) w.heap.size len k p Y w.heap.size ps) := fr_below HF3.out hb
    have HQ4 : Hid (Fr w4 (w3.heap.size + 1) w3.heap.size len k p Y w3.heap.size qs) := hq
    clear hb hq
    have S1 : Hid (∀ W, Below w4.heap.size w4 W → Calls Try.prog 8 #[.pointer (some ⟨w.heap.size + 1, 0, none⟩), .slice vA len vc] W fun e w' => e = .returned (.bool true) ∧ Below W.heap.size W w') := fun W hb => same15 _ _ ps _ _ W ((HP4.out.mm HK.out.2.2).below hb) (by omega) (arg_row HP4.out HK.out.2.1 HK.out.2.2 (HA4.out.below hb))
    have S3 : Hid (∀ W, Below w4.heap.size w4 W → Calls Try.prog 8 #[.pointer (some ⟨w3.heap.size + 1, 0, none⟩), .slice vA len vc] W fun e w' => e = .returned (.bool true) ∧ Below W.heap.size W w') := fun W hb => same15 _ _ qs _ _ W ((HQ4.out.mm HK.out.2.2).below hb) (by have := HQ4.out.len; omega) (arg_row HQ4.out HK.out.2.1 HK.out.2.2 (HA4.out.below hb))
    have S2 : Hid (∀ W, Below w4.heap.size w4 W → Calls Try.prog 9 #[.pointer (some ⟨w.heap.size + 1, 0, none⟩), .pointer (some ⟨w3.heap.size + 1, 0, none⟩)] W fun e w' => e = .returned (.bool true) ∧ Below W.heap.size W w') := fun W hb => same_true _ _ _ _ ps qs _ _ W ((HP4.out.mm HK.out.2.2).below hb) ((HQ4.out.mm HK.out.2.2).below hb) (by rw [HP4.out.len, HQ4.out.len]) (by omega) (same_places (HP4.out.alike HQ4.out) (fun x hx => by obtain ⟨t, ht, rfl⟩ := List.getElem_of_mem hx; rw [(HP4.out.at_ t _ (List.getElem?_eq_getElem ht)).1]; exact HK.out.1 t (by omega)) (HP4.out.byts HQ4.out HK.out.2.2))
    clear HP4 HQ4 HA4 HCl HF3 HF HK HH HB2 HB3 HSp
    go_wp2_with fail
    refine (S1.out w4 (Below.refl _ _)).mono ?_
    rintro e w5 ⟨rfl, hb⟩
    have C5 : Hid (Below w4.heap.size w4 w5) := hb
    clear hb
    go_wp2_with fail
    refine (S2.out w5 C5.out).mono ?_
    rintro e w6 ⟨rfl, hb⟩
    have C6 : Hid (Below w4.heap.size w4 w6) := C5.out.trans (hb.mono C5.out.size)
    clear hb
    go_wp2_with fail
    refine (S3.out w6 C6.out).mono ?_
    rintro e w7 ⟨rfl, hb⟩
    have C7 : Hid (Below w.heap.size w w7) := HW4.out.trans ((C6.out.trans (hb.mono C6.out.size)).mono HW4.out.size)
    clear hb
    go_wp2
    go_ret
    exact ⟨rfl, C7.out⟩
end Go.Proofs.Ytndbkkldfinggaa
