/- A register whose rows may be written: what stays. -/
import Derived.Test.YtdhandkddbgadaaVG
import Derived.Test.YtdhandkddbgadaaK24
namespace Go.Proofs.Ytdhandkddbgadaa
set_option linter.unusedVariables false
set_option linter.unusedSimpArgs false
open Go.RowKit

theorem Room.set {W : World} {B : Nat} {A : Option Addr} {g : Nat} {t : TypeId} {n size : Nat} (h : Room W B A g t n size) (g' i : Nat) (u : Value) : Room (W.setCell ⟨g', i, none⟩ u) B A g t n size := by
  intro h0
  obtain ⟨a, b, cur, c, d⟩ := h h0
  by_cases e : g = g'
  · subst e
    exact ⟨a, b, _, c.store i u, by simpa using d⟩
  · exact ⟨a, b, cur, c.other (p := ⟨g', i, none⟩) e u, d⟩
/-- The rows of an issue may be written, from block B on. -/
def RoomT (W : World) (B : Nat) (r : Iss × Value × Value) : Prop :=
  (∃ A c g, r.2.1 = .slice A r.1.items.length c ∧ Room W B A g 52 r.1.items.length 2) ∧ ∃ A c g, r.2.2 = .slice A r.1.dims.length c ∧ Room W B A g 54 r.1.dims.length 3
theorem RoomT.after {W W' : World} {B : Nat} {r : Iss × Value × Value} (h : RoomT W B r) (hb : Below W.heap.size W W') : RoomT W' B r := by
  obtain ⟨⟨A, c, g, e, h1⟩, A2, c2, g2, e2, h2⟩ := h
  exact ⟨⟨A, c, g, e, h1.after hb⟩, A2, c2, g2, e2, h2.after hb⟩
theorem RoomT.set {W : World} {B : Nat} {r : Iss × Value × Value} (h : RoomT W B r) (g' i : Nat) (u : Value) : RoomT (W.setCell ⟨g', i, none⟩ u) B r := by
  obtain ⟨⟨A, c, g, e, h1⟩, A2, c2, g2, e2, h2⟩ := h
  exact ⟨⟨A, c, g, e, h1.set g' i u⟩, A2, c2, g2, e2, h2.set g' i u⟩
/-- A register whose issues lie in one block, and whose rows may be written. -/
def XAt (W : World) (B : Nat) (v : Value) (rs : List (Iss × Value × Value)) : Prop :=
  (∃ A c g, v = .slice A rs.length c ∧ (0 < rs.length → A = some ⟨g, 0, none⟩ ∧ ∃ cur, Lies W g 45 cur ∧ ∀ j, j < rs.length * 5 → cur[j]? = (cellsT rs)[j]?)) ∧ ∀ r ∈ rs, RoomT W B r
theorem XAt.after {W W' : World} {B : Nat} {v : Value} {rs : List (Iss × Value × Value)} (h : XAt W B v rs) (hb : Below W.heap.size W W') : XAt W' B v rs := by
  obtain ⟨⟨A, c, g, e, hf⟩, hr⟩ := h
  refine ⟨⟨A, c, g, e, fun h0 => ?_⟩, fun r hm => (hr r hm).after hb⟩
  obtain ⟨e2, cur, hl, hc⟩ := hf h0
  exact ⟨e2, cur, hl.after hb, hc⟩
theorem XAt.set {W : World} {B : Nat} {v : Value} {rs : List (Iss × Value × Value)} (h : XAt W B v rs) {g' : Nat} {t' : TypeId} {cs' : Array Value} (hl' : Lies W g' t' cs') (ht : 45 ≠ t') (i : Nat) (u : Value) : XAt (W.setCell ⟨g', i, none⟩ u) B v rs := by
  obtain ⟨⟨A, c, g, e, hf⟩, hr⟩ := h
  refine ⟨⟨A, c, g, e, fun h0 => ?_⟩, fun r hm => (hr r hm).set g' i u⟩
  obtain ⟨e2, cur, hl, hc⟩ := hf h0
  exact ⟨e2, cur, hl.beside hl' ht i u, hc⟩
theorem OwnReg.xat {W : World} {B : Nat} {v : Value} {rs : List (Iss × Value × Value)} (h : OwnReg W B v rs) : XAt W B v rs := by
  obtain ⟨A, c, g, e, hf⟩ := own_form h.1
  refine ⟨⟨A, c, g, e, fun h0 => ?_⟩, fun r hm => ?_⟩
  · obtain ⟨-, e2, cur, hl, hc⟩ := hf h0
    exact ⟨e2, cur, hl, hc⟩
  · obtain ⟨-, h1, h2⟩ := h.2 r hm
    obtain ⟨A1, c1, g1, e1, r1⟩ := own_room h1 (cellsI_len _)
    obtain ⟨A2, c2, g2, e2, r2⟩ := own_room h2 (cellsS_len _)
    exact ⟨⟨A1, c1, g1, e1, r1⟩, A2, c2, g2, e2, r2⟩
/-- What is at hand of issue k. -/
theorem XAt.at_ {W : World} {B c : Nat} {A : Option Addr} {rs : List (Iss × Value × Value)} (h : XAt W B (.slice A rs.length c) rs) {k : Nat} (hk : k < rs.length) : ∃ (g : Nat) (A1 : Option Addr) (c1 g1 : Nat) (A2 : Option Addr) (c2 g2 : Nat), A = some ⟨g, 0, none⟩ ∧ g < W.heap.size ∧ W.cell? ⟨g, k * 5 + 3, none⟩ = some (.slice A1 rs[k].1.items.length c1) ∧ W.cell? ⟨g, k * 5 + 4, none⟩ = some (.slice A2 rs[k].1.dims.length c2) ∧
    Room W B A1 g1 52 rs[k].1.items.length 2 ∧ Room W B A2 g2 54 rs[k].1.dims.length 3 := by
  obtain ⟨⟨A', c', g, e, hf⟩, hr⟩ := h
  injection e with e1 e2 e3
  subst e1 e3
  obtain ⟨e2, cur, hl, hc⟩ := hf (by omega)
  obtain ⟨⟨A1, c1, g1, q1, r1⟩, A2, c2, g2, q2, r2⟩ := hr rs[k] (List.getElem_mem hk)
  have h3 : W.cell? ⟨g, k * 5 + 3, none⟩ = (cellT rs[k])[3]? := by rw [hl.cell, hc _ (by omega), cellsT_at hk (by omega)]
  have h4 : W.cell? ⟨g, k * 5 + 4, none⟩ = (cellT rs[k])[4]? := by rw [hl.cell, hc _ (by omega), cellsT_at hk (by omega)]
  unfold cellT at h3 h4
  rw [q1, q2] at h3 h4
  exact ⟨g, A1, c1, g1, A2, c2, g2, e2, hl.lt, h3, h4, r1, r2⟩
end Go.Proofs.Ytdhandkddbgadaa
