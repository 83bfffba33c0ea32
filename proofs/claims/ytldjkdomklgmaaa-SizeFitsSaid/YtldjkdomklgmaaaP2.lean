/-
  SizeFits, whatever the two sizes, the nominal size, the wanted clearance, the unit and the list of sizes: the law returns true, and its arguments read behind the call as they read before. No condition.
-/
import Derived.Test.YtldjkdomklgmaaaP1
import Derived.Test.YtldjkdomklgmaaaN1
import Derived.Deep.Slices
import Derived.Carry
namespace Go.Proofs.Ytldjkdomklgmaaa
set_option linter.unusedVariables false
set_option linter.unusedSimpArgs false
open Go.ChangeShapes Go.WideShapes Go.ChangeAt Go.RowKit

theorem cells_span : Try.prog.cellsOf 38 = 2 := by kernel_rfl
/-- A span by value, opened. -/
theorem open_span {H : Type} {enc : TypeId × Value → H} {W : World} {base : Nat} {v : Value} {d : DataW H} {p : List MemPlace} (hv : Value.okWide Try.prog W .any base 38 v) (h : DataW.Trod enc Try.prog W 0 (fun _ => true) true 38 v d p) :
    ∃ a b : Int, v = .agg #[.int .i64 a, .int .i64 b] := by
  obtain ⟨v0, v1, y0, y1, m, rfl, -, -, h0, h1⟩ := Go.Joins.open_agg2 Try.underlying38 (by kernel_rfl) cells_span hv h
  obtain ⟨a, e0, -⟩ := DataW.trod_int Try.underlying3 h0
  obtain ⟨b, e1, -⟩ := DataW.trod_int Try.underlying3 h1
  simp only [List.cons.injEq, and_true] at e0 e1
  subst e0; subst e1
  exact ⟨a, b, rfl⟩
/-- A size that reads in three cells. -/
theorem dim_cells {H : Type} {enc : TypeId × Value → H} {W : World} {n : Nat} {cs : List Value} {y : DataW H × List MemPlace} (h : DataW.trod enc Try.prog W 0 (fun _ => true) true n 23 cs = some y) :
    ∃ x0 x1 x2 : Int, cs = [.int .i64 x0, .int .i64 x1, .int .i64 x2] := by
  obtain ⟨xs, m, -, -, hlen, hxl, hg⟩ := DataW.trod_struct Try.underlying23 h
  rw [cells_dim] at hlen
  match cs, hlen with
  | [c0, c1, c2], _ =>
    have hci : Try.prog.cellsOf 3 = 1 := by kernel_rfl
    have g0 : DataW.trod enc Try.prog W 0 (fun _ => true) true m 3 (List.take (Try.prog.cellsOf 3) (List.drop 0 [c0, c1, c2])) = xs[0]? := hg 0 _ rfl
    have g1 : DataW.trod enc Try.prog W 0 (fun _ => true) true m 3 (List.take (Try.prog.cellsOf 3) (List.drop 1 [c0, c1, c2])) = xs[1]? := hg 1 _ rfl
    have g2 : DataW.trod enc Try.prog W 0 (fun _ => true) true m 3 (List.take (Try.prog.cellsOf 3) (List.drop 2 [c0, c1, c2])) = xs[2]? := hg 2 _ rfl
    rw [hci] at g0 g1 g2
    simp only [List.drop_zero, List.drop_succ_cons, List.take_succ_cons, List.take_zero] at g0 g1 g2
    have k : ∀ (c : Value) (z : Option (DataW H × List MemPlace)), DataW.trod enc Try.prog W 0 (fun _ => true) true m 3 [c] = z → z.isSome → ∃ i : Int, c = .int .i64 i := by
      intro c z hz hs
      obtain ⟨z', rfl⟩ := Option.isSome_iff_exists.1 hs
      obtain ⟨i, e, -⟩ := DataW.trod_int Try.underlying3 hz
      simp only [List.cons.injEq, and_true] at e
      exact ⟨i, e⟩
    have hx : xs.length = 3 := hxl
    obtain ⟨i0, rfl⟩ := k c0 _ g0 (by simp [hx])
    obtain ⟨i1, rfl⟩ := k c1 _ g1 (by simp [hx])
    obtain ⟨i2, rfl⟩ := k c2 _ g2 (by simp [hx])
    exact ⟨i0, i1, i2, rfl⟩
/-- A list of sizes, opened: nil, or cells that hold them. -/
theorem open_dims {H : Type} {enc : TypeId × Value → H} {W : World} {base : Nat} {v : Value} {d : DataW H} {p : List MemPlace} (hv : Value.okWide Try.prog W .any base 39 v) (h : DataW.Trod enc Try.prog W 0 (fun _ => true) true 39 v d p) :
    v = .slice none 0 0 ∨ ∃ (ad : Addr) (ds : List D3) (c : Nat), v = .slice (some ad) ds.length c ∧ (0 < ds.length → ad = ⟨ad.block, ad.off, none⟩) ∧ cellsD W ad.block ad.off ds := by
  obtain ⟨a, len, cap, rfl⟩ := okWide_slice Try.underlying39 hv
  obtain ⟨fuel, hf⟩ := h
  rcases Go.Deep.open_slice Try.underlying39 hf with ⟨hcs, -⟩ | ⟨ad, len', cap', m, n, D, Pl, hcs, -, hl, -, hm, -, hi⟩
  · left
    simpa [Value.cells] using hcs
  · right
    simp only [Value.cells, List.cons.injEq, Value.slice.injEq, and_true] at hcs
    obtain ⟨rfl, rfl, rfl⟩ := hcs
    rw [cells_dim] at hi
    have hml : len ≤ m := by rw [hm]; simpa using hl
    have hex : ∀ i, ∃ x : D3, i < len → W.cell? (ad.add (i * 3)) = some (.int .i64 x.1) ∧ W.cell? (ad.add (i * 3 + 1)) = some (.int .i64 x.2.1) ∧ W.cell? (ad.add (i * 3 + 2)) = some (.int .i64 x.2.2) := by
      intro i
      by_cases h : i < len
      · obtain ⟨cs, hc, ht⟩ := hi i (by omega)
        obtain ⟨x0, x1, x2, rfl⟩ := dim_cells ht
        obtain ⟨-, -, hat⟩ := World.cells?_some hc
        have a0 := hat 0 (by omega)
        have a1 := hat 1 (by omega)
        have a2 := hat 2 (by omega)
        rw [Go.Deep.add_add] at a0 a1 a2
        exact ⟨(x0, x1, x2), fun _ => ⟨by simpa using a0, by simpa using a1, by simpa using a2⟩⟩
      · exact ⟨(0, 0, 0), fun h' => absurd h' h⟩
    obtain ⟨f, hf⟩ := Classical.skolem.1 hex
    have hlen : ((List.range len).map f).length = len := by simp
    have hg : ∀ i (hi : i < ((List.range len).map f).length), ((List.range len).map f)[i] = f i := fun i hi => by simp
    refine ⟨ad, (List.range len).map f, cap, by rw [hlen], fun h => ?_, fun i hi => ?_⟩
    · have := (hf 0 (by omega)).1
      exact spot_none (by simpa [Addr.add] using this)
    · rw [hg]
      have h0 := spot_none (by simpa [Addr.add] using (hf 0 (by omega)).1)
      have h1 := hf i (by omega)
      obtain ⟨b, o, s⟩ := ad
      simp only [Addr.mk.injEq, true_and] at h0
      subst h0
      rw [add_none, add_none, add_none] at h1
      exact h1

set_option maxRecDepth 100000 in
theorem fits_lifted (os : Os) (started : os.Started) (H : Type) (enc : TypeId × Value → H) :
    ReturnsInHanded {} Try.checked os 4 .any (Rows.sizeFitsSpec.pre6 enc Try.prog Try.f4 Rows.sizeFitsRow.domain false) (Rows.sizeFitsSpec.post enc Try.prog Try.f4 false true false false) := by
  refine returnsInHanded_of_change (C := Try.checked) turns_own started (by kernel_rfl) Try.func4
    (ChangeSpec.witness6 (enc := enc) (C := Try.checked) false ⟨#[], #[.agg #[.int .i64 0, .int .i64 0, .int .i64 0], .agg #[.int .i64 0, .int .i64 0, .int .i64 0], .int .i64 0, .agg #[.int .i64 0, .int .i64 0], .int .u8 0, .slice none 0 0], []⟩ 8 (by kernel_rfl) (by kernel_rfl) (by kernel_rfl) (by kernel_rfl)) ?_
  intro W base args ds gs before hval0 hW hcnd _
  have hval : ∀ (j : Nat) t v, Try.f4.params[j]? = some t → args[j]? = some v → Value.okWide Try.prog W .any base t v := hval0
  have hW' := hW
  obtain ⟨p, q, hA0, hV, rfl, hfz, hnd⟩ := hW
  have hA : DataW.TrodAll enc Try.prog W 0 (fun _ => true) true Try.f4.params.toList args.toList ds p := hA0
  rw [Try.params4] at hA hval
  obtain ⟨v0, vs0, d0, ds0, p0, q0, hargs, rfl, rfl, h0, r0⟩ := trodAll_cons hA
  obtain ⟨v1, vs1, d1, ds1, p1, q1, rfl, rfl, rfl, h1, r1⟩ := trodAll_cons r0
  obtain ⟨v2, vs2, d2, ds2, p2, q2, rfl, rfl, rfl, h2, r2⟩ := trodAll_cons r1
  obtain ⟨v3, vs3, d3, ds3, p3, q3, rfl, rfl, rfl, h3, r3⟩ := trodAll_cons r2
  obtain ⟨v4, vs4, d4, ds4, p4, q4, rfl, rfl, rfl, h4, r4⟩ := trodAll_cons r3
  obtain ⟨v5, vs5, d5, ds5, p5, q5, rfl, rfl, rfl, h5, r5⟩ := trodAll_cons r4
  obtain ⟨rfl, rfl, rfl⟩ := trodAll_nil r5
  obtain rfl : args = #[v0, v1, v2, v3, v4, v5] := by cases args; simp_all
  obtain ⟨rfl, rfl⟩ := trodVars_none hV
  have hb : ∀ W' : World, Below W.heap.size W W' → Rows.sizeFitsSpec.post enc Try.prog Try.f4 false true false false W #[v0, v1, v2, v3, v4, v5] (.bool true) W' := fun W' hB => by
    have hlt : ∀ x, x ∈ p0 ∨ x ∈ p1 ∨ x ∈ p2 ∨ x ∈ p3 ∨ x ∈ p4 ∨ x ∈ p5 → x.block < W.heap.size := fun x hx => hW'.lt x (by simpa using hx)
    refine ⟨_, _, _, [], p0 ++ (p1 ++ (p2 ++ (p3 ++ (p4 ++ p5)))), [], hW', ?_, ?_, ?_, hB.frame _, fun h => by cases h⟩
    · exact trodAll_mk1 (shut_bool Try.underlying4 _)
    · exact ⟨p0, _, Below.trod turns_laidOut (by kernel_rfl) (by decide) h0 hB fun x hx => hlt x (by simp [hx]), ⟨p1, _, Below.trod turns_laidOut (by kernel_rfl) (by decide) h1 hB fun x hx => hlt x (by simp [hx]), trodAll_mk4 (Below.trod turns_laidOut (by kernel_rfl) (by decide) h2 hB fun x hx => hlt x (by simp [hx])) (Below.trod turns_laidOut (by kernel_rfl) (by decide) h3 hB fun x hx => hlt x (by simp [hx])) (Below.trod turns_laidOut (by kernel_rfl) (by decide) h4 hB fun x hx => hlt x (by simp [hx])) (Below.trod turns_laidOut (by kernel_rfl) (by decide) h5 hB fun x hx => hlt x (by simp [hx])), rfl⟩, rfl⟩
    · rfl
  obtain ⟨an, al, au, rfl⟩ := open_dim (hval 0 23 v0 rfl rfl) h0
  obtain ⟨bn, bl, bu, rfl⟩ := open_dim (hval 1 23 v1 rfl rfl) h1
  obtain ⟨nom, rfl, -, -, -⟩ := open_int Try.underlying3 (hval 2 3 v2 rfl rfl) h2
  obtain ⟨lo, hi, rfl⟩ := open_span (hval 3 38 v3 rfl rfl) h3
  obtain ⟨un, rfl, -, -, -⟩ := open_int Try.underlying5 (hval 4 5 v4 rfl rfl) h4
  have hcalls : Calls Try.prog 4 #[.agg #[.int .i64 an, .int .i64 al, .int .i64 au], .agg #[.int .i64 bn, .int .i64 bl, .int .i64 bu], .int .i64 nom, .agg #[.int .i64 lo, .int .i64 hi], .int .u8 un, v5] W fun e w' => e = .returned (.bool true) ∧ Below W.heap.size W w' := by
    rcases open_dims (hval 5 39 v5 rfl rfl) h5 with rfl | ⟨ad, ds, c, rfl, had, hc⟩
    · exact fits_none an al au bn bl bu nom lo hi un W
    · by_cases hl : ds.length ≤ 40
      · by_cases hz : 0 < ds.length
        · rw [had hz]
          exact fits_some ad.block ad.off ds c an al au bn bl bu nom lo hi un W hl hc (fun h => World.block_lt_of_cell? W ⟨ad.block, ad.off + 0 * 3, none⟩ (hc 0 h).1)
        · obtain rfl : ds = [] := List.length_eq_zero_iff.1 (by omega)
          exact fits_empty ad c an al au bn bl bu nom lo hi un W
      · exact fits_many (some ad) ds.length c an al au bn bl bu nom lo hi un W (by omega)
  refine hcalls.mono fun e W' ⟨he, hB⟩ => ?_
  subst he
  exact ⟨_, rfl, hb W' hB⟩

/-- The given statement. -/
theorem SizeFits_proved : Rows.SizeFitsSaid :=
  OpenClaim.holds_of_wide 4 Try.f4 rfl rfl rfl rfl rfl rfl rfl ⟨rfl, rfl, rfl, rfl, rfl⟩ rfl rfl rfl rfl rfl (by kernel_rfl) Try.func4 (by kernel_rfl)
    (of_decide_eq_true (by kernel_rfl)) (by unfold Func.isWrapper; first | (rw [if_pos (by decide +kernel)]; kernel_rfl) | (rw [if_neg (by decide +kernel)]; exact ⟨rfl, rfl⟩))
    (fun os started H enc _ => fits_lifted os started H enc)
#print axioms SizeFits_proved
end Go.Proofs.Ytldjkdomklgmaaa
