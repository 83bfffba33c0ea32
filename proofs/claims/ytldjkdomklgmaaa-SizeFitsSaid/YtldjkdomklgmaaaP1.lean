/-
  SizeTurns, whatever the size, the unit and the list of units: the law returns true, and its arguments read behind the call as they read before. No condition.
-/
import Derived.Test.YtldjkdomklgmaaaRows
import Derived.Test.YtldjkdomklgmaaaL2
import Derived.ProofKit
import Derived.OpenShut
import Derived.Lib.SmallJoins
namespace Go.Proofs.Ytldjkdomklgmaaa
set_option linter.unusedVariables false
set_option linter.unusedSimpArgs false
open Go.ChangeShapes Go.WideShapes Go.ChangeAt Go.RowKit

theorem turns_own : ownKnob Try.prog.godebug = none := by kernel_rfl
theorem turns_laidOut : laidOutB Try.prog = true := by kernel_rfl
theorem cells_u8 : Try.prog.cellsOf 5 = 1 := by kernel_rfl
theorem cells_dim : Try.prog.cellsOf 23 = 3 := by kernel_rfl

/-- A cell that is read lies at an address that names a cell. -/
theorem spot_none {W : World} {a : Addr} {v : Value} (h : W.cell? a = some v) : a = ⟨a.block, a.off, none⟩ := by
  obtain ⟨b, o, s⟩ := a
  cases s with
  | none => rfl
  | some x =>
    exfalso
    unfold World.cell? at h
    split at h <;> simp at h

/-- A size by value, opened. -/
theorem open_dim {H : Type} {enc : TypeId × Value → H} {W : World} {base : Nat} {v : Value} {d : DataW H} {p : List MemPlace} (hv : Value.okWide Try.prog W .any base 23 v) (h : DataW.Trod enc Try.prog W 0 (fun _ => true) true 23 v d p) :
    ∃ n l u : Int, v = .agg #[.int .i64 n, .int .i64 l, .int .i64 u] := by
  obtain ⟨v0, v1, v2, y0, y1, y2, m, rfl, -, -, h0, h1, h2⟩ := Go.Joins.open_agg3 Try.underlying23 (by kernel_rfl) cells_dim hv h
  obtain ⟨n, e0, -⟩ := DataW.trod_int Try.underlying3 h0
  obtain ⟨l, e1, -⟩ := DataW.trod_int Try.underlying3 h1
  obtain ⟨u, e2, -⟩ := DataW.trod_int Try.underlying3 h2
  simp only [List.cons.injEq, and_true] at e0 e1 e2
  subst e0; subst e1; subst e2
  exact ⟨n, l, u, rfl⟩

/-- A list of units, opened: nil, or cells that hold them. -/
theorem open_units {H : Type} {enc : TypeId × Value → H} {W : World} {base : Nat} {v : Value} {d : DataW H} {p : List MemPlace} (hv : Value.okWide Try.prog W .any base 24 v) (h : DataW.Trod enc Try.prog W 0 (fun _ => true) true 24 v d p) :
    v = .slice none 0 0 ∨ ∃ (ad : Addr) (us : List Int) (c : Nat), v = .slice (some ad) us.length c ∧ (0 < us.length → ad = ⟨ad.block, ad.off, none⟩) ∧ cellsU W ad.block ad.off us := by
  obtain ⟨a, len, cap, rfl⟩ := okWide_slice Try.underlying24 hv
  obtain ⟨fuel, hf⟩ := h
  rcases open_ints Try.underlying24 Try.underlying5 cells_u8 hf with ⟨hcs, -⟩ | ⟨ad, len', cap', zs, hcs, -, hl, hm, hz, -, hcell, -⟩
  · left
    simpa [Value.cells] using hcs
  · right
    simp only [Value.cells, List.cons.injEq, Value.slice.injEq, and_true] at hcs
    obtain ⟨rfl, rfl, rfl⟩ := hcs
    simp only [if_true] at hz
    have hlen : (zs.take len).length = len := by simp; omega
    have hcl : ∀ i (hi : i < len), W.cell? (ad.add i) = some (.int .u8 ((zs.take len)[i]'(by omega))) := fun i hi => by
      rw [hcell i (by omega)]
      simp [List.getD, show i < zs.length by omega]
    refine ⟨ad, zs.take len, cap, by rw [hlen], fun h => ?_, fun i hi => ?_⟩
    · have := hcl 0 (by omega)
      exact spot_none (by simpa [Addr.add] using this)
    · have h1 := hcl i (by omega)
      have h0 := spot_none (by simpa [Addr.add] using hcl 0 (by omega))
      rw [← h1]
      obtain ⟨b, o, s⟩ := ad
      simp only [Addr.mk.injEq, true_and] at h0
      subst h0
      congr 1
      unfold Addr.add
      by_cases e : i = 0
      · subst e; rfl
      · rw [if_neg e]

set_option maxRecDepth 100000 in
theorem turns_lifted (os : Os) (started : os.Started) (H : Type) (enc : TypeId × Value → H) :
    ReturnsInHanded {} Try.checked os 3 .any (Rows.sizeTurnsSpec.pre6 enc Try.prog Try.f3 Rows.sizeTurnsRow.domain false) (Rows.sizeTurnsSpec.post enc Try.prog Try.f3 false true false false) := by
  refine returnsInHanded_of_change (C := Try.checked) turns_own started (by kernel_rfl) Try.func3
    (ChangeSpec.witness6 (enc := enc) (C := Try.checked) false ⟨#[], #[.agg #[.int .i64 0, .int .i64 0, .int .i64 0], .int .u8 0, .slice none 0 0], []⟩ 8 (by kernel_rfl) (by kernel_rfl) (by kernel_rfl) (by kernel_rfl)) ?_
  intro W base args ds gs before hval0 hW hcnd _
  have hval : ∀ (j : Nat) t v, Try.f3.params[j]? = some t → args[j]? = some v → Value.okWide Try.prog W .any base t v := hval0
  have hW' := hW
  obtain ⟨p, q, hA0, hV, rfl, hfz, hnd⟩ := hW
  have hA : DataW.TrodAll enc Try.prog W 0 (fun _ => true) true Try.f3.params.toList args.toList ds p := hA0
  rw [Try.params3] at hA hval
  obtain ⟨v0, v1, v2, d0, d1, d2, p0, p1, p2, rfl, rfl, rfl, h0, h1, h2⟩ := trodAll_three hA
  obtain ⟨rfl, rfl⟩ := trodVars_none hV
  have hb : ∀ W' : World, Below W.heap.size W W' → Rows.sizeTurnsSpec.post enc Try.prog Try.f3 false true false false W #[v0, v1, v2] (.bool true) W' := fun W' hB => by
    have hlt : ∀ x, x ∈ p0 ∨ x ∈ p1 ∨ x ∈ p2 → x.block < W.heap.size := fun x hx => hW'.lt x (by simpa using hx)
    refine ⟨_, _, _, [], p0 ++ (p1 ++ p2), [], hW', ?_, ?_, ?_, hB.frame _, fun h => by cases h⟩
    · exact trodAll_mk1 (shut_bool Try.underlying4 _)
    · exact trodAll_mk3 (Below.trod turns_laidOut (by kernel_rfl) (by decide) h0 hB fun x hx => hlt x (.inl hx)) (Below.trod turns_laidOut (by kernel_rfl) (by decide) h1 hB fun x hx => hlt x (.inr (.inl hx))) (Below.trod turns_laidOut (by kernel_rfl) (by decide) h2 hB fun x hx => hlt x (.inr (.inr hx)))
    · rfl
  obtain ⟨n, l, u, rfl⟩ := open_dim (hval 0 23 v0 rfl rfl) h0
  obtain ⟨un, rfl, -, -, -⟩ := open_int Try.underlying5 (hval 1 5 v1 rfl rfl) h1
  have hcalls : Calls Try.prog 3 #[.agg #[.int .i64 n, .int .i64 l, .int .i64 u], .int .u8 un, v2] W fun e w' => e = .returned (.bool true) ∧ Below W.heap.size W w' := by
    rcases open_units (hval 2 24 v2 rfl rfl) h2 with rfl | ⟨ad, us, c, rfl, had, hc⟩
    · exact turns_none n l u un W
    · by_cases hl : us.length ≤ 40
      · exact turns_some ad ad.block ad.off us c n l u un W had hl hc (fun h => World.block_lt_of_cell? W ⟨ad.block, ad.off + 0, none⟩ (hc 0 h))
      · exact turns_many (some ad) us.length c n l u un W (by omega)
  refine hcalls.mono fun e W' ⟨he, hB⟩ => ?_
  subst he
  exact ⟨_, rfl, hb W' hB⟩

/-- The given statement. -/
theorem SizeTurns_proved : Rows.SizeTurnsSaid :=
  OpenClaim.holds_of_wide 3 Try.f3 rfl rfl rfl rfl rfl rfl rfl ⟨rfl, rfl, rfl, rfl, rfl⟩ rfl rfl rfl rfl rfl (by kernel_rfl) Try.func3 (by kernel_rfl)
    (of_decide_eq_true (by kernel_rfl)) (by unfold Func.isWrapper; first | (rw [if_pos (by decide +kernel)]; kernel_rfl) | (rw [if_neg (by decide +kernel)]; exact ⟨rfl, rfl⟩))
    (fun os started H enc _ => turns_lifted os started H enc)
#print axioms SizeTurns_proved
end Go.Proofs.Ytldjkdomklgmaaa
