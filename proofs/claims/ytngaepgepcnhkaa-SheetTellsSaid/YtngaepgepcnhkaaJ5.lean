/- A map of numbers to bools, as a set: what it tells, and what a store and a delete do. -/
import Derived.Test.YtngaepgepcnhkaaH0
import Derived.Maps.Own
import Derived.Maps.OwnSet
import Derived.IntWalk
namespace Go.Proofs.Ytngaepgepcnhkaa
set_option linter.unusedVariables false
set_option linter.unusedSimpArgs false
open Go.RowKit Go.Maps

def NIn (x : Int) : Prop := -9223372036854775808 ≤ x ∧ x ≤ 9223372036854775807
theorem nin_wf {x : Int} (h : NIn x) : (Lit.int .i64 x).wf = true := WalkArith.wf_i64 h
/-- Block b holds a map of at most n numbers, and the set it tells is S. -/
def BMap (w : World) (b n : Nat) (S : Int → Bool) : Prop :=
  ∃ D : DataW Unit, w.ownsMap Try.prog 3 (plainElem Try.prog 4) b n D ∧ ∀ x, NIn x → D.atKey (.int .i64 x) (.lit (.bool false)) = .lit (.bool (S x))

theorem zero_bool (w : World) : (zeroValue 4).run Try.prog w = .ok (.bool false) w := by kernel_rfl
theorem key_i64 {x : Int} (h : NIn x) : keyOf Try.prog 3 (.int .i64 x) = some (.int .i64 x) := keyOf_int_mk Try.underlying3 (nin_wf h)
theorem plainElem_bool_inv' {H : Type} {P : Program} {e : TypeId} (he : P.underlying e = some .bool) {v : Value} {z : DataW H × List MemPlace} (h : plainElem P e v = some z) : ∃ c, v = .bool c ∧ z.1 = .lit (.bool c) := by
  simp only [plainElem, he] at h
  cases v <;> simp at h
  exact ⟨_, rfl, by rw [← h]⟩
theorem plainElem_bool_inv {v : Value} {z : DataW Unit × List MemPlace} (h : plainElem Try.prog 4 v = some z) : ∃ c, v = .bool c ∧ z.1 = .lit (.bool c) := plainElem_bool_inv' Try.underlying4 h
theorem isKey_i64 (x : Int) : WideAt.IsKeyLit (.int .i64 x) := by unfold WideAt.IsKeyLit; trivial
theorem BMap.lt {w : World} {b n : Nat} {S : Int → Bool} (h : BMap w b n S) : b < w.heap.size := by obtain ⟨D, h1, -⟩ := h; exact h1.lt
theorem BMap.kept {w w' : World} {b n : Nat} {S : Int → Bool} (h : BMap w b n S) (he : w'.heap[b]? = w.heap[b]?) : BMap w' b n S := by
  obtain ⟨D, ⟨es, cl, h1, h2⟩, h3⟩ := h
  exact ⟨D, ⟨es, cl, he.trans h1, h2⟩, h3⟩
theorem BMap.keep {w w' : World} {B b n : Nat} {S : Int → Bool} (h : BMap w b n S) (hb : Below B w w') (hlt : b < B) : BMap w' b n S := h.kept (hb.block b hlt)
theorem BMap.after {w w' : World} {b n : Nat} {S : Int → Bool} (h : BMap w b n S) (hb : Below w.heap.size w w') : BMap w' b n S := h.keep hb h.lt
theorem BMap.alloc {w : World} {b n : Nat} {S : Int → Bool} (h : BMap w b n S) (o : Obj) : BMap (w.alloc o) b n S := h.kept (Below.heap_alloc w o b h.lt)
theorem BMap.set {w : World} {b n : Nat} {S : Int → Bool} (h : BMap w b n S) {p : Addr} (hp : b ≠ p.block) (u : Value) : BMap (w.setCell p u) b n S := h.kept (Below.heap_setCell w p u b hp)
theorem BMap.ext {w : World} {b n : Nat} {S T : Int → Bool} (h : BMap w b n S) (e : ∀ x, NIn x → S x = T x) : BMap w b n T := by
  obtain ⟨D, h1, h3⟩ := h
  exact ⟨D, h1, fun x hx => by rw [h3 x hx, e x hx]⟩
theorem BMap.more {w : World} {b n m : Nat} {S : Int → Bool} (h : BMap w b n S) (hm : n ≤ m) : BMap w b m S := by
  obtain ⟨D, h1, h3⟩ := h
  exact ⟨D, h1.mono hm, h3⟩
theorem BMap.made (w : World) : BMap (w.alloc (.map #[] 0)) w.heap.size 0 (fun _ => false) := ⟨_, World.ownsMap_made _ _ _ _, fun x _ => rfl⟩
theorem BMap.look {w : World} {b n : Nat} {S : Int → Bool} (h : BMap w b n S) {x : Int} (hx : NIn x) : (Instr.lookup 112 (.map (some b)) (.int .i64 x) false).run Try.prog w = .ok (.bool (S x)) w := by
  obtain ⟨D, h1, h3⟩ := h
  obtain ⟨v, ps, hrun, hv⟩ := h1.lookup (int_keyed Try.underlying3) Try.underlying112 (zero_bool w) (plainElem_bool Try.underlying4 false) (key_i64 hx)
  obtain ⟨c, rfl, hc⟩ := plainElem_bool_inv hv
  rw [h3 x hx] at hc
  simp only [DataW.lit.injEq, Lit.bool.injEq] at hc
  rw [← hc] at hrun
  exact hrun
theorem BMap.put {w : World} {b n : Nat} {S : Int → Bool} (h : BMap w b n S) (hn : n < 1000000) {x : Int} (hx : NIn x) (v : Bool) :
    ∃ w', (Instr.mapUpdate 112 (.map (some b)) (.int .i64 x) (.bool v)).run Try.prog w = .ok () w' ∧ BMap w' b (n + 1) (fun y => if y = x then v else S y) ∧ w.mapTurned w' b := by
  obtain ⟨D, h1, h3⟩ := h
  obtain ⟨w', hrun, h4, h5⟩ := h1.store (int_keyed Try.underlying3) Try.underlying112 (by unfold maxLen; omega) (key_i64 hx) (plainElem_bool Try.underlying4 v)
  refine ⟨w', hrun, ⟨_, h4, fun y hy => ?_⟩, h5⟩
  show _ = DataW.lit (Lit.bool (if y = x then _ else S y))
  by_cases e : y = x
  · subst e
    rw [if_pos rfl, Maps.atKey_put_same h1.isMap (isKey_i64 y)]
  · rw [if_neg e, Maps.atKey_put_other (by intro h; injection h with _ h; exact e h), h3 y hy]
theorem BMap.del {w : World} {b n : Nat} {S : Int → Bool} (h : BMap w b n S) {x : Int} (hx : NIn x) (ty : TypeId) :
    ∃ w', (Builtin.delete_ #[112, 3] ty #[.map (some b), .int .i64 x]).run Try.prog w = .ok (.tuple #[]) w' ∧ BMap w' b n (fun y => if y = x then false else S y) ∧ w.mapTurned w' b := by
  obtain ⟨D, h1, h3⟩ := h
  obtain ⟨w', hrun, h4, h5⟩ := h1.drop (int_keyed Try.underlying3) Try.underlying112 (key_i64 hx) ty
  refine ⟨w', hrun, ⟨_, h4, fun y hy => ?_⟩, h5⟩
  show _ = DataW.lit (Lit.bool (if y = x then _ else S y))
  by_cases e : y = x
  · subst e
    rw [if_pos rfl, Maps.atKey_del_same]
  · rw [if_neg e, Maps.atKey_del_other (by intro h; injection h with _ h; exact e h), h3 y hy]
/-- A map's block that turned: all else is as it was. -/
theorem turned_other {w w' : World} {b : Nat} (h : w.mapTurned w' b) {k : Nat} (hk : k ≠ b) : w'.heap[k]? = w.heap[k]? := by
  obtain ⟨es, cl, es', cl', hb, rfl⟩ := h
  exact Go.ChangeMaps.heap_setBlock_other hb _ hk
theorem turned_below {w w' : World} {b B : Nat} (h : w.mapTurned w' b) (hB : B ≤ b) (w0 : World) (hb : Below B w0 w) (hs : B ≤ w.heap.size) : Below B w0 w' := hb.grown h.grown hs (fun k e => by injection e with e; omega)
theorem turned_size {w w' : World} {b : Nat} (h : w.mapTurned w' b) : w'.heap.size = w.heap.size := by
  obtain ⟨es, cl, es', cl', hb, rfl⟩ := h
  simp [Go.ChangeMaps.setBlock]
theorem Lies.turned1 {w w' : World} {g b : Nat} {t : TypeId} {cs : Array Value} (h : Lies w g t cs) (ht : w.mapTurned w' b) (hne : g ≠ b) : Lies w' g t cs := (turned_other ht hne).trans h
theorem cell_turned {w w' : World} {b : Nat} (ht : w.mapTurned w' b) {p : Addr} (hp : p.block ≠ b) : w'.cell? p = w.cell? p := by
  unfold World.cell?
  rw [turned_other ht hp]
end Go.Proofs.Ytngaepgepcnhkaa
