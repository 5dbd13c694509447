/- Tokens as a source, by the program. -/
import Derived.Test.YtgdbfedagdlgkaaDoorQ2
import Derived.Test.YtgdbfedagdlgkaaDoorN2
import Derived.Test.YtgdbfedagdlgkaaDoorJ3
import Derived.Lib.ItoaLen
namespace Go.Proofs.YtgdbfedagdlgkaaDoor
open Go.RowKit Go.Shelf
/-- A token as it comes in: its places may be any numbers. -/
structure Tj where
  k : Int
  t : ByteArray
  v : Int
  fr : Int
  en : Int
def tjc (x : Tj) : List Value := [.int .i64 x.k, .string x.t, .int .i64 x.v, .int .i64 x.fr, .int .i64 x.en]
def okT (x : Tj) : Prop := x.t.size ≤ 140737488355328 ∧ -9223372036854775808 ≤ x.v ∧ x.v ≤ 9223372036854775807
/-- A slice of tokens, as it comes in. -/
def TjA (w : World) (v : Value) (l : List Tj) : Prop := ∃ ao c, v = .slice ao l.length c ∧ l.length ≤ c ∧ c ≤ 9223372036854775807 ∧ (∀ x ∈ l, okT x) ∧ (0 < l.length → ∃ g o, ao = some ⟨g, o, none⟩ ∧ ∀ i x, l[i]? = some x → ∀ j y, (tjc x)[j]? = some y → w.cell? ⟨g, o + i * 5 + j, none⟩ = some y)
def fmT (x : Tj) : Bool := fmB x.k x.t.data.toList x.v (Lib.decodeGo x.t).2
def stp (acc : List UInt8) (x : Tj) : List UInt8 := if x.k = 5 then acc else if acc = [] then x.t.data.toList else acc ++ [32] ++ x.t.data.toList
def prt (l : List Tj) : List UInt8 := l.foldl stp []
def prE (l : List Tj) : Int := if 65536 < l.length then 2 else if l.all fmT then 0 else 8
def prS (l : List Tj) : ByteArray := if 65536 < l.length then ⟨#[]⟩ else if l.all fmT then ⟨(prt l).toArray⟩ else ⟨#[]⟩
theorem prt_snoc (l : List Tj) (x : Tj) : prt (l ++ [x]) = stp (prt l) x := by simp [prt]
theorem take_next {α : Type} {l : List α} {k : Nat} {x : α} (h : l[k]? = some x) : l.take (k + 1) = l.take k ++ [x] := by
  rw [List.take_add_one, h]
  rfl
/-- What has a text of its kind is short. -/
theorem fm_short {x : Tj} (hx : okT x) (h : fmT x = true) : x.t.data.toList.length ≤ 64 := by
  unfold fmT at h
  rw [formed_same _ _ _ _ hx.2.2] at h
  simp only [Bool.and_eq_true] at h
  obtain ⟨h, h5⟩ := h
  unfold rgB at h
  generalize x.t.data.toList = l at *
  split at h
  · unfold nameB at h
    simp at h
    omega
  · split at h
    · have := wd_short h
      omega
    · split at h
      · simp at h
        rw [h.2]
        have := Lib.itoa_length_le x.v hx.2.1 hx.2.2
        omega
      · split at h
        · rw [take_all] at h
          simp at h
          have : rsg l ≤ 2 := by
            unfold rsg
            (repeat' split) <;> omega
          omega
        · simp [decide_eq_true_eq] at h
          rw [decide_eq_true h] at h5
          simp at h5
          rw [h5]
          simp
theorem stp_short (acc : List UInt8) (x : Tj) (h : x.t.data.toList.length ≤ 64) : (stp acc x).length ≤ acc.length + 65 := by
  unfold stp
  split
  · omega
  · split
    · omega
    · simp at *
      omega
theorem builder_below {B b : Nat} {bs : List Value} {W W' : World} (h : Lib.IsBuilder 57 5 B b bs W) (hb : Below W.heap.size W W') : Lib.IsBuilder 57 5 B b bs W' := by
  have key : ∀ p, Lib.BuilderAt 57 5 B b p bs W → Lib.BuilderAt 57 5 B b p bs W' := by
    rintro p ⟨hB, v, hbk, hown, hne⟩
    exact ⟨hB, v, keep_block hbk hb, own_below hown hb, hne⟩
  rcases h with h | h
  · exact .inl (key _ h)
  · exact .inr (key _ h)
end Go.Proofs.YtgdbfedagdlgkaaDoor
