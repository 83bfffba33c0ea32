/- What At tells, and its uniqueness. -/
import Derived.Test.YtngaepgepcnhkaaK19
import Derived.Test.YtngaepgepcnhkaaK22
namespace Go.Proofs.Ytngaepgepcnhkaa
set_option linter.unusedVariables false
set_option linter.unusedSimpArgs false
open Go.RowKit

/-- An issue whose rows may be written, from block B on. -/
def YAt (W : World) (B : Nat) (v : Value) (x : Iss) : Prop :=
  ∃ A3 c3 g3 A4 c4 g4, v = .agg #[.int .i64 x.d, .int .i64 x.l, .int .u8 x.k, .slice A3 x.items.length c3, .slice A4 x.dims.length c4] ∧ ItemsAt W (.slice A3 x.items.length c3) x.items ∧ DimsAt W (.slice A4 x.dims.length c4) x.dims ∧
    (0 < x.items.length → B ≤ g3 ∧ A3 = some ⟨g3, 0, none⟩ ∧ ∃ cur, Lies W g3 52 cur ∧ x.items.length * 2 ≤ cur.size) ∧
    (0 < x.dims.length → B ≤ g4 ∧ A4 = some ⟨g4, 0, none⟩ ∧ ∃ cur, Lies W g4 54 cur ∧ x.dims.length * 3 ≤ cur.size)
theorem own_room {w : World} {base : Nat} {e : TypeId} {size n : Nat} {v : Value} {xs : List Value} (h : w.ownsRow base e size v n xs) (hl : xs.length = n * size) : ∃ A c g, v = .slice A n c ∧ (0 < n → base ≤ g ∧ A = some ⟨g, 0, none⟩ ∧ ∃ cur, Lies w g e cur ∧ n * size ≤ cur.size) := by
  obtain ⟨A, c, g, hv, hf⟩ := own_form h
  refine ⟨A, c, g, hv, fun h0 => ?_⟩
  obtain ⟨h1, h2, cur, h3, h4⟩ := hf h0
  refine ⟨h1, h2, cur, h3, ?_⟩
  apply Classical.byContradiction
  intro hn
  have h5 := h4 cur.size (by omega)
  rw [Array.getElem?_eq_none (Nat.le_refl _)] at h5
  have := List.getElem?_eq_none_iff.1 h5.symm
  omega
theorem OwnIss.yat {W : World} {B base : Nat} {v : Value} {x : Iss} (h : OwnIss W base v x) (hb : B ≤ base) : YAt W B v x := by
  obtain ⟨vi, vd, rfl, hk, h1, h2⟩ := h
  obtain ⟨A3, c3, g3, rfl, r3⟩ := own_room h1 (cellsI_len _)
  obtain ⟨A4, c4, g4, rfl, r4⟩ := own_room h2 (cellsS_len _)
  exact ⟨A3, c3, g3, A4, c4, g4, rfl, items_of_own h1, dims_of_own h2, fun h => by obtain ⟨a, b, c⟩ := r3 h; exact ⟨by omega, b, c⟩, fun h => by obtain ⟨a, b, c⟩ := r4 h; exact ⟨by omega, b, c⟩⟩
theorem zIss_yat (W : World) (B : Nat) : YAt W B zIss zeroI := by
  refine ⟨none, 0, 0, none, 0, 0, rfl, ⟨none, 0, 0, 0, rfl, ?_, ?_⟩, ⟨none, 0, 0, 0, rfl, ?_, ?_⟩, ?_, ?_⟩
  · intro h; exact absurd h (by decide)
  · intro i h; exact absurd h (by simp [zeroI])
  · intro h; exact absurd h (by decide)
  · intro i h; exact absurd h (by simp [zeroI])
  · intro h; exact absurd h (by decide)
  · intro h; exact absurd h (by decide)
/-- What At answers. -/
def AtQ (xs : List Iss) (d l : Int) (x : Iss) (ee : Int) : Prop :=
  (layE xs ≠ 0 ∧ x = zeroI ∧ ee = layE xs) ∨ (layE xs = 0 ∧ (∀ k : Fin xs.length, ¬ isN xs d l k) ∧ x = zeroI ∧ ee = 6) ∨
    (layE xs = 0 ∧ ∃ k : Fin xs.length, isN xs d l k ∧ (∀ j : Fin xs.length, j.1 < k.1 → ¬ isN xs d l j) ∧ x = xs[k] ∧ ee = 0)
theorem AtQ.one {xs : List Iss} {d l : Int} {x x' : Iss} {ee ee' : Int} (h : AtQ xs d l x ee) (h' : AtQ xs d l x' ee') : x' = x ∧ ee' = ee := by
  rcases h with ⟨a, b, c⟩ | ⟨a, b, c, e⟩ | ⟨a, k, b, c, e, f⟩ <;> rcases h' with ⟨a', b', c'⟩ | ⟨a', b', c', e'⟩ | ⟨a', k', b', c', e', f'⟩
  · exact ⟨b'.trans b.symm, c'.trans c.symm⟩
  · exact absurd a' a
  · exact absurd a' a
  · exact absurd a a'
  · exact ⟨c'.trans c.symm, e'.trans e.symm⟩
  · exact absurd b' (b k')
  · exact absurd a a'
  · exact absurd b (b' k)
  · have : k' = k := by
      apply Fin.ext
      rcases Nat.lt_trichotomy k'.1 k.1 with h | h | h
      · exact absurd b' (c k' h)
      · exact h
      · exact absurd b (c' k h)
    subst this
    exact ⟨e'.trans e.symm, f'.trans f.symm⟩
theorem at_yat {xs : List Iss} {d l : Int} {w w' : World} {e : Ending} (h : AtP xs d l w e w') (B : Nat) (hB : B ≤ w.heap.size) : ∃ v x ee, e = .returned (.tuple #[v, .int .i64 ee]) ∧ YAt w' B v x ∧ AtQ xs d l x ee ∧ Below w.heap.size w w' := by
  obtain ⟨h1 | h1 | h1, hb⟩ := h
  · exact ⟨_, _, _, h1.2, zIss_yat _ _, .inl ⟨h1.1, rfl, rfl⟩, hb⟩
  · exact ⟨_, _, _, h1.2.2, zIss_yat _ _, .inr (.inl ⟨h1.1, h1.2.1, rfl, rfl⟩), hb⟩
  · obtain ⟨a, k, b, c, v, rfl, ho⟩ := h1
    exact ⟨v, xs[k], 0, rfl, ho.yat hB, .inr (.inr ⟨a, k, b, c, rfl, rfl⟩), hb⟩
theorem AtQ.small {xs : List Iss} {d l : Int} {x : Iss} {ee : Int} (h : AtQ xs d l x ee) {n : Nat} (hs : ∀ x ∈ xs, x.items.length ≤ n ∧ x.dims.length ≤ n) : x.items.length ≤ n ∧ x.dims.length ≤ n := by
  rcases h with ⟨_, rfl, _⟩ | ⟨_, _, rfl, _⟩ | ⟨_, k, _, _, rfl, _⟩
  · exact ⟨Nat.zero_le _, Nat.zero_le _⟩
  · exact ⟨Nat.zero_le _, Nat.zero_le _⟩
  · exact hs _ (List.getElem_mem k.2)
theorem great_no {xs : List Iss} (h : greatB xs = false) : xs.length ≤ 80 ∧ ∀ x ∈ xs, x.items.length ≤ 16 ∧ x.dims.length ≤ 8 := by
  unfold greatB at h
  rw [Bool.or_eq_false_iff, decide_eq_false_iff_not, List.any_eq_false] at h
  refine ⟨by omega, fun x hx => ?_⟩
  have := h.2 x hx
  unfold bigB at this
  simp at this
  exact ⟨by omega, by omega⟩
end Go.Proofs.Ytngaepgepcnhkaa
