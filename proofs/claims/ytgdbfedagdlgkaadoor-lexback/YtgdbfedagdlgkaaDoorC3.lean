/- A source that is letters throughout is cut into its tokens, by the program. -/
import Derived.Test.YtgdbfedagdlgkaaDoorC2
import Derived.Laws.AppendOwn
namespace Go.Proofs.YtgdbfedagdlgkaaDoor
open Go.RowKit Go.Shelf
theorem get_bt (s : ByteArray) (p : Nat) : (s.get! p).toNat = bt s.data.toList p := by
  by_cases h : p < s.size
  · rw [← at_bt s p h]
    congr 1
    exact get_at s p h
  · obtain ⟨⟨l⟩⟩ := s
    have hl : l.length ≤ p := by
      have : ¬ p < l.length := h
      omega
    simp only [ByteArray.get!, bt, List.getD]
    rw [List.getElem?_eq_none hl]
    simp [hl]
    rfl
theorem dec_asc (s : ByteArray) (p : Nat) (ha : bt s.data.toList p < 128) : Utf8.decode s p = (bt s.data.toList p, 1) := by
  rw [Lib.decode_at, get_bt]
  unfold Lib.decodeN
  rw [if_pos ha]
theorem dec_high (s : ByteArray) (p : Nat) (ha : 128 ≤ bt s.data.toList p) : 128 ≤ (Utf8.decode s p).1 := by
  rw [Lib.decode_at, get_bt]
  unfold Lib.decodeN
  rw [if_neg (by omega)]
  repeat' split
  all_goals simp only
  all_goals omega
theorem dec_mid (s : ByteArray) (p j : Nat) (h1 : p < j) (h2 : j < p + (Utf8.decode s p).2) : 128 ≤ bt s.data.toList j := by
  rw [Lib.decode_at, get_bt, get_bt, get_bt, get_bt] at h2
  unfold Lib.decodeN at h2
  split at h2
  · simp only at h2
    omega
  · split at h2
    · rename_i hx
      split at h2
      · simp only at h2
        obtain rfl : j = p + 1 := by omega
        omega
      · simp only at h2
        omega
    · split at h2
      · rename_i hx
        split at h2
        · simp only at h2
          rcases (by omega : j = p + 1 ∨ j = p + 2) with rfl | rfl
          · omega
          · omega
        · simp only at h2
          omega
      · split at h2
        · rename_i hx
          split at h2
          · simp only at h2
            rcases (by omega : j = p + 1 ∨ j = p + 2 ∨ j = p + 3) with rfl | rfl | rfl
            · omega
            · omega
            · omega
          · simp only at h2
            omega
        · simp only at h2
          omega
/-- Letters may be passed over as far as a place. -/
def Skp (s : ByteArray) (p d : Nat) : Prop := d ≤ s.size ∧ ((d = s.size ∨ bt s.data.toList d < 128) ∨ ∀ j, p ≤ j → j < d → bt s.data.toList j < 128)
theorem skp_step {s : ByteArray} {p d : Nat} (h : Skp s p d) (hp : p < d) : p + (Utf8.decode s p).2 ≤ d ∧ Skp s (p + (Utf8.decode s p).2) d := by
  obtain ⟨h0, h1⟩ := h
  have hw := width_le s p (by omega)
  have hle : p + (Utf8.decode s p).2 ≤ d := by
    rcases h1 with (h1 | h1) | h1
    · omega
    · rcases Nat.lt_or_ge d (p + (Utf8.decode s p).2) with h | h
      · have := dec_mid s p d hp h
        omega
      · exact h
    · rw [dec_asc s p (h1 p (Nat.le_refl _) hp)]
      exact hp
  refine ⟨hle, h0, ?_⟩
  rcases h1 with h1 | h1
  · exact .inl h1
  · exact .inr fun j h2 h3 => h1 j (by omega) h3
theorem own_iter {w : World} {B e size n : Nat} {v : Value} {xs : List Value} (h : w.ownsRow B e size v n xs) {k : Nat} (hk : k < B) (s : ByteArray) (p : Nat) : (w.iterAt k s p).ownsRow B e size v n xs := by
  obtain ⟨h1, h2⟩ := h
  refine ⟨h1, ?_⟩
  rcases h2 with h2 | ⟨g, cap, cur, a, b, c, d⟩
  · exact .inl h2
  · exact .inr ⟨g, cap, cur, a, b, by rw [Lib.iterAt_other _ _ _ _ _ (by omega)]; exact c, d⟩
theorem own_below {W W' : World} {B e size n : Nat} {v : Value} {xs : List Value} (h : W.ownsRow B e size v n xs) (hb : Below W.heap.size W W') : W'.ownsRow B e size v n xs :=
  h.kept (row := none) ⟨hb.os, hb.tape, hb.output, hb.size, fun k hk _ => hb.block k hk⟩ (Classical.em _)
theorem info42 : (Tryd.prog.info? 42).map (fun i => (i.zero, i.size, i.bytes)) = some (some (.agg #[.int .i64 0, .string ⟨#[]⟩, .int .i64 0, .int .i64 0, .int .i64 0]), 5, 48) := by kernel_rfl
def zer3 : Obj := .cells #[.int .i64 0, .int .i64 0, .int .i64 0] 25 (0, 0)
/-- What cutting leaves. -/
def cutQ (w : World) (r : Res) (e : Ending) (w' : World) : Prop := Below w.heap.size w w' ∧ match r with
  | .ok l => ∃ v, e = .returned (.tuple #[v, .agg #[.int .i64 0, .int .i64 0, .int .i64 0]]) ∧ w'.ownsRow w.heap.size 42 5 v l.length (tkl l)
  | .bad c f t => e = .returned (.tuple #[.slice none 0 0, .agg #[.int .i64 c, .int .i64 f, .int .i64 t]])
/-- What holds at each round. -/
def Rd (s : ByteArray) (w : World) (gf : Nat) (v4 v5 : Value) (wx : World) : Prop := ∃ (pos dn f : Nat) (acc : List Tk), v5 = .int .i64 dn ∧ wx.ownsRow (w.heap.size + 2) 42 5 v4 acc.length (tkl acc) ∧ wx.heap[w.heap.size + 1]? = some (.stringIter s pos) ∧ wx.heap[w.heap.size]? = some zer3 ∧ Below w.heap.size w wx ∧ toks s f (max pos dn) acc = toks s s.size 0 [] ∧ s.size ≤ max pos dn + f ∧ s.size ≤ pos + gf ∧ pos ≤ s.size ∧ Skp s pos dn ∧ acc.length ≤ max pos dn
end Go.Proofs.YtgdbfedagdlgkaaDoor
