/- A map of numbers, with its keys and how many there are. -/
import Derived.Test.YtkjfceajakhlfaaLB
import Derived.Maps.Views
namespace Go.Proofs.Ytkjfceajakhlfaa
set_option linter.unusedVariables false
set_option linter.unusedSimpArgs false
open Go.RowKit Go.Maps

/-- Block b holds a map that tells S; its keys are K, and there are m. -/
def KMap (w : World) (b n : Nat) (K : Int → Bool) (m : Nat) (S : Int → Int) : Prop :=
  ∃ D : DataW Unit, w.ownsMap Try.prog 3 (plainElem Try.prog 3) b n D ∧ (∀ x, NIn x → D.atKey (.int .i64 x) (.lit (.int .i64 0)) = .lit (.int .i64 (S x))) ∧ (∀ x, NIn x → Maps.has D (.int .i64 x) = K x) ∧ Maps.size D = m
variable {w w' : World} {b n m : Nat} {K : Int → Bool} {S : Int → Int}
theorem KMap.imap (h : KMap w b n K m S) : IMap w b n S := by obtain ⟨D, h1, h2, -⟩ := h; exact ⟨D, h1, h2⟩
theorem KMap.lt (h : KMap w b n K m S) : b < w.heap.size := h.imap.lt
theorem KMap.kept (h : KMap w b n K m S) (he : w'.heap[b]? = w.heap[b]?) : KMap w' b n K m S := by
  obtain ⟨D, ⟨es, cl, h1, h2⟩, h3⟩ := h
  exact ⟨D, ⟨es, cl, he.trans h1, h2⟩, h3⟩
theorem KMap.after (h : KMap w b n K m S) (hb : Below w.heap.size w w') : KMap w' b n K m S := h.kept (hb.block b h.lt)
theorem KMap.alloc (h : KMap w b n K m S) (o : Obj) : KMap (w.alloc o) b n K m S := h.kept (Below.heap_alloc w o b h.lt)
theorem KMap.made (w : World) : KMap (w.alloc (.map #[] 0)) w.heap.size 0 (fun _ => false) 0 (fun _ => 0) := ⟨_, World.ownsMap_made _ _ _ _, fun x _ => rfl, fun x _ => rfl, rfl⟩
theorem KMap.ext {K' : Int → Bool} {S' : Int → Int} {m' : Nat} (h : KMap w b n K m S) (e1 : ∀ x, NIn x → K x = K' x) (e2 : ∀ x, NIn x → S x = S' x) (e3 : m = m') : KMap w b n K' m' S' := by
  obtain ⟨D, h1, h2, h3, h4⟩ := h
  exact ⟨D, h1, fun x hx => by rw [h2 x hx, e2 x hx], fun x hx => by rw [h3 x hx, e1 x hx], h4.trans e3⟩
theorem KMap.more {n' : Nat} (h : KMap w b n K m S) (hn : n ≤ n') : KMap w b n' K m S := by
  obtain ⟨D, h1, h3⟩ := h
  exact ⟨D, h1.mono hn, h3⟩
theorem KMap.len (h : KMap w b n K m S) (ty : TypeId) : (Builtin.len_ #[100] ty #[.map (some b)]).run Try.prog w = .ok (.int .i64 (m : Int)) w := by
  obtain ⟨D, h1, -, -, h4⟩ := h
  rw [← h4]
  exact h1.len Try.underlying100 ty
theorem KMap.put (h : KMap w b n K m S) (hn : n < 1000000) {x : Int} (hx : NIn x) {v : Int} (hv : NIn v) :
    ∃ w', (Instr.mapUpdate 100 (.map (some b)) (.int .i64 x) (.int .i64 v)).run Try.prog w = .ok () w' ∧ KMap w' b (n + 1) (fun y => decide (y = x) || K y) (if K x then m else m + 1) (fun y => if y = x then v else S y) ∧ w.mapTurned w' b := by
  obtain ⟨D, h1, h3, h4, h6⟩ := h
  obtain ⟨w', hrun, h7, h5⟩ := h1.store (int_keyed Try.underlying3) Try.underlying100 (by unfold maxLen; omega) (key_i64 hx) (plainElem_int Try.underlying3 (nin_wf hv))
  refine ⟨w', hrun, ⟨_, h7, fun y hy => ?_, fun y hy => ?_, ?_⟩, h5⟩
  · show _ = DataW.lit (Lit.int .i64 (if y = x then _ else S y))
    by_cases e : y = x
    · subst e
      rw [if_pos rfl, Maps.atKey_put_same h1.isMap (isKey_i64 y)]
    · rw [if_neg e, Maps.atKey_put_other (by intro h; injection h with _ h; exact e h), h3 y hy]
  · by_cases e : y = x
    · subst e
      rw [Maps.has_put_same h1.isMap (isKey_i64 y)]; simp
    · rw [Maps.has_put_other (by intro h; injection h with _ h; exact e h), h4 y hy]; simp [e]
  · rw [Maps.size_put (h1.tidy (int_keyed Try.underlying3)), h4 x hx, h6]
theorem KMap.del (h : KMap w b n K m S) {x : Int} (hx : NIn x) (ty : TypeId) :
    ∃ w', (Builtin.delete_ #[100, 3] ty #[.map (some b), .int .i64 x]).run Try.prog w = .ok (.tuple #[]) w' ∧ KMap w' b n (fun y => !decide (y = x) && K y) (if K x then m - 1 else m) (fun y => if y = x then 0 else S y) ∧ w.mapTurned w' b := by
  obtain ⟨D, h1, h3, h4, h6⟩ := h
  obtain ⟨w', hrun, h7, h5⟩ := h1.drop (int_keyed Try.underlying3) Try.underlying100 (key_i64 hx) ty
  refine ⟨w', hrun, ⟨_, h7, fun y hy => ?_, fun y hy => ?_, ?_⟩, h5⟩
  · show _ = DataW.lit (Lit.int .i64 (if y = x then _ else S y))
    by_cases e : y = x
    · subst e
      rw [if_pos rfl, Maps.atKey_del_same]
    · rw [if_neg e, Maps.atKey_del_other (by intro h; injection h with _ h; exact e h), h3 y hy]
  · by_cases e : y = x
    · subst e
      rw [Maps.has_del_same]; simp
    · rw [Maps.has_del_other (by intro h; injection h with _ h; exact e h), h4 y hy]; simp [e]
  · have h8 := Maps.size_del (k := .int .i64 x) (h1.tidy (int_keyed Try.underlying3))
    rw [h4 x hx, h6] at h8
    split <;> simp_all
    omega
/-- A map that counts: its keys are the numbers of zs that are counted. -/
def CMap (w : World) (b n : Nat) (zs : List Int) (S : Int → Int) : Prop := KMap w b n (fun x => decide (0 < S x)) (zs.filter fun z => decide (0 < S z)).length S
theorem CMap.made (w : World) (zs : List Int) : CMap (w.alloc (.map #[] 0)) w.heap.size 0 zs (fun _ => 0) :=
  (KMap.made w).ext (fun _ _ => by simp) (fun _ _ => rfl) (by induction zs with | nil => rfl | cons z r ih => simpa using ih)
theorem count_add {zs : List Int} (hp : zs.Pairwise (· < ·)) {x : Int} (hx : x ∈ zs) {p q : Int → Bool} (hq : q x = true) (he : ∀ y, y ≠ x → q y = p y) : (zs.filter q).length = if p x then (zs.filter p).length else (zs.filter p).length + 1 := by
  induction zs with
  | nil => cases hx
  | cons z r ih =>
    have hp' := List.pairwise_cons.1 hp
    by_cases e : z = x
    · subst e
      have h1 : r.filter q = r.filter p := List.filter_congr fun y hy => he y (by have := hp'.1 y hy; omega)
      rw [List.filter_cons_of_pos hq, h1]
      by_cases e2 : p z = true
      · rw [if_pos e2, List.filter_cons_of_pos e2]
      · rw [if_neg e2, List.filter_cons_of_neg e2]; rfl
    · have hx' : x ∈ r := by
        rcases List.mem_cons.1 hx with h | h
        · exact absurd h.symm e
        · exact h
      have h2 := ih hp'.2 hx'
      by_cases e2 : p z = true
      · have e3 : q z = true := by rw [he z e]; exact e2
        rw [List.filter_cons_of_pos e3, List.filter_cons_of_pos e2, List.length_cons, List.length_cons, h2]
        split <;> rfl
      · have e3 : ¬ q z = true := by rw [he z e]; exact e2
        rw [List.filter_cons_of_neg e3, List.filter_cons_of_neg e2, h2]
theorem CMap.add {zs : List Int} (h : CMap w b n zs S) (hn : n < 1000000) (hp : zs.Pairwise (· < ·)) {x : Int} (hz : x ∈ zs) (hx : NIn x) {v : Int} (hv : NIn v) (h0 : 0 < v) :
    ∃ w', (Instr.mapUpdate 100 (.map (some b)) (.int .i64 x) (.int .i64 v)).run Try.prog w = .ok () w' ∧ CMap w' b (n + 1) zs (fun y => if y = x then v else S y) ∧ w.mapTurned w' b := by
  obtain ⟨w', h1, h2, h3⟩ := KMap.put h hn hx hv
  refine ⟨w', h1, h2.ext (fun y _ => ?_) (fun y _ => rfl) ?_, h3⟩
  · by_cases e : y = x
    · simp [e, h0]
    · simp [e]
  · rw [count_add hp hz (p := fun z => decide (0 < S z)) (q := fun z => decide (0 < if z = x then v else S z)) (by simp [h0]) (fun y e => by simp [e])]
end Go.Proofs.Ytkjfceajakhlfaa
