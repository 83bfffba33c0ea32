/- Registers, as lists, and in memory. Nothing of the walks. -/
import Derived.Test.YtngaepgepcnhkaaA0
import Derived.Test.YtngaepgepcnhkaaA1
namespace Go.Proofs.Ytngaepgepcnhkaa
set_option linter.unusedVariables false
set_option linter.unusedSimpArgs false
open Go.RowKit

/-- An issue: drawing, letter, kind, items, sizes. -/
structure Iss where
  d : Int
  l : Int
  k : Int
  items : List (Int × Int)
  dims : List D3

def inB (lo hi n : Int) : Bool := decide (lo ≤ n ∧ n ≤ hi)
theorem in1B (lo hi n : Int) : allIn lo hi [n] = inB lo hi n := by simp [allIn, inB]
def namedB (x : Iss) : Bool := inB 1 9999 x.d && inB 1 8 x.l && inB 1 3 x.k
def orderB (b x : Iss) : Bool := if x.d = b.d then decide (x.l = b.l + 1) && decide (x.k = b.k) else decide (b.d < x.d) && decide (x.l = 1)
/-- Items are valid, behind an item of a drawing 'last'. -/
def itemsB (d : Int) : Int → List (Int × Int) → Bool
  | _, [] => true
  | last, it :: r => if it.1 = d ∨ it.1 ≤ last ∨ ¬ (1 ≤ it.2 ∧ it.2 ≤ 20) then false else itemsB d it.1 r
def madeB (x : Iss) : Bool := if x.k = 1 then inB 1 8 x.items.length && itemsB x.d 0 x.items else decide (x.items.length = 0)
def measuredB (x : Iss) : Bool := if x.k = 1 then decide (x.dims.length = 0) else decide (x.dims.length ≤ 4) && !badD0 x.dims
  where badD0 (ds : List D3) : Bool := ds.any fun d => !okD d.1 d.2.1 d.2.2
def metB (b x : Iss) : Bool := namedB x && orderB b x && madeB x && measuredB x
def rightB : Iss → List Iss → Bool
  | _, [] => true
  | b, x :: r => metB b x && rightB x r
def zeroI : Iss := ⟨0, 0, 0, [], []⟩
def numbersL (xs : List Iss) : List Int := (xs.filter fun x => decide (x.l = 1)).map (·.d)

/-- A list of numbers in memory. -/
def IntsAt (w : World) (v : Value) (l : List Int) : Prop :=
  ∃ A c b off, v = .slice A l.length c ∧ (0 < l.length → A = some ⟨b, off, none⟩) ∧ ∀ i (h : i < l.length), w.cell? ⟨b, off + i, none⟩ = some (.int .i64 l[i])
def ItemsAt (w : World) (v : Value) (l : List (Int × Int)) : Prop :=
  ∃ A c b off, v = .slice A l.length c ∧ (0 < l.length → A = some ⟨b, off, none⟩) ∧ ∀ i (h : i < l.length), w.cell? ⟨b, off + i * 2, none⟩ = some (.int .i64 l[i].1) ∧ w.cell? ⟨b, off + i * 2 + 1, none⟩ = some (.int .i64 l[i].2)
def DimsAt (w : World) (v : Value) (l : List D3) : Prop :=
  ∃ A c b off, v = .slice A l.length c ∧ (0 < l.length → A = some ⟨b, off, none⟩) ∧ cellsD w b off l
/-- A nil slice has no room. -/
def NilOk (v : Value) : Prop := ∀ n c, v = .slice none n c → c = 0
/-- An issue as a value. -/
def IssV (w : World) (v : Value) (x : Iss) : Prop := ∃ vi vd, v = .agg #[.int .i64 x.d, .int .i64 x.l, .int .u8 x.k, vi, vd] ∧ (0 ≤ x.k ∧ x.k ≤ 255) ∧ ItemsAt w vi x.items ∧ DimsAt w vd x.dims
/-- An issue in five cells. -/
def IssC (w : World) (b o : Nat) (x : Iss) : Prop := ∃ vi vd, w.cell? ⟨b, o, none⟩ = some (.int .i64 x.d) ∧ w.cell? ⟨b, o + 1, none⟩ = some (.int .i64 x.l) ∧ w.cell? ⟨b, o + 2, none⟩ = some (.int .u8 x.k) ∧
  w.cell? ⟨b, o + 3, none⟩ = some vi ∧ w.cell? ⟨b, o + 4, none⟩ = some vd ∧ (0 ≤ x.k ∧ x.k ≤ 255) ∧ ItemsAt w vi x.items ∧ DimsAt w vd x.dims ∧ NilOk vi ∧ NilOk vd
def IssuesAt (w : World) (v : Value) (xs : List Iss) : Prop :=
  ∃ A c b off, v = .slice A xs.length c ∧ (0 < xs.length → A = some ⟨b, off, none⟩) ∧ ∀ i (h : i < xs.length), IssC w b (off + i * 5) xs[i]

theorem cell_keep {w w' : World} (hb : Below w.heap.size w w') {p : Addr} {v : Value} (h : w.cell? p = some v) : w'.cell? p = some v := (hb.cell (World.block_lt_of_cell? w _ h)).trans h
theorem IntsAt.after {w w' : World} {v : Value} {l : List Int} (h : IntsAt w v l) (hb : Below w.heap.size w w') : IntsAt w' v l := by
  obtain ⟨A, c, b, off, hv, hA, hc⟩ := h
  exact ⟨A, c, b, off, hv, hA, fun i hi => cell_keep hb (hc i hi)⟩
theorem ItemsAt.after {w w' : World} {v : Value} {l : List (Int × Int)} (h : ItemsAt w v l) (hb : Below w.heap.size w w') : ItemsAt w' v l := by
  obtain ⟨A, c, b, off, hv, hA, hc⟩ := h
  exact ⟨A, c, b, off, hv, hA, fun i hi => ⟨cell_keep hb (hc i hi).1, cell_keep hb (hc i hi).2⟩⟩
theorem DimsAt.after {w w' : World} {v : Value} {l : List D3} (h : DimsAt w v l) (hb : Below w.heap.size w w') : DimsAt w' v l := by
  obtain ⟨A, c, b, off, hv, hA, hc⟩ := h
  exact ⟨A, c, b, off, hv, hA, fun i hi => ⟨cell_keep hb (hc i hi).1, cell_keep hb (hc i hi).2.1, cell_keep hb (hc i hi).2.2⟩⟩
theorem IssV.after {w w' : World} {v : Value} {x : Iss} (h : IssV w v x) (hb : Below w.heap.size w w') : IssV w' v x := by
  obtain ⟨vi, vd, hv, hk, h1, h2⟩ := h
  exact ⟨vi, vd, hv, hk, h1.after hb, h2.after hb⟩
theorem IssC.after {w w' : World} {b o : Nat} {x : Iss} (h : IssC w b o x) (hb : Below w.heap.size w w') : IssC w' b o x := by
  obtain ⟨vi, vd, h0, h1, h2, h3, h4, hk, h5, h6, h7⟩ := h
  exact ⟨vi, vd, cell_keep hb h0, cell_keep hb h1, cell_keep hb h2, cell_keep hb h3, cell_keep hb h4, hk, h5.after hb, h6.after hb, h7⟩
theorem IssuesAt.after {w w' : World} {v : Value} {xs : List Iss} (h : IssuesAt w v xs) (hb : Below w.heap.size w w') : IssuesAt w' v xs := by
  obtain ⟨A, c, b, off, hv, hA, hc⟩ := h
  exact ⟨A, c, b, off, hv, hA, fun i hi => (hc i hi).after hb⟩

theorem itemsB_step {d last : Int} {l : List (Int × Int)} {k : Nat} (h : k < l.length) (h1 : ¬ l[k].1 = d) (h2 : ¬ l[k].1 ≤ last) (h3 : 1 ≤ l[k].2 ∧ l[k].2 ≤ 20) : itemsB d last (l.drop k) = itemsB d l[k].1 (l.drop (k + 1)) := by
  rw [List.drop_eq_getElem_cons h, itemsB, if_neg]
  rintro (h' | h' | h')
  · exact h1 h'
  · exact h2 h'
  · exact h' h3
theorem itemsB_stop {d last : Int} {l : List (Int × Int)} {k : Nat} (h : k < l.length) (h1 : l[k].1 = d ∨ l[k].1 ≤ last ∨ ¬ (1 ≤ l[k].2 ∧ l[k].2 ≤ 20)) : itemsB d last (l.drop k) = false := by
  rw [List.drop_eq_getElem_cons h, itemsB, if_pos h1]
end Go.Proofs.Ytngaepgepcnhkaa
