/- SheetEnds: the law's body. -/
import Derived.Test.YtkjfceajakhlfaaRD
import Derived.Test.YtkjfceajakhlfaaRE
import Derived.Test.YtkjfceajakhlfaaHX
import Derived.Test.YtkjfceajakhlfaaHL
import Derived.Test.YtkjfceajakhlfaaHY
import Derived.Test.YtkjfceajakhlfaaHI
import Derived.Test.YtkjfceajakhlfaaHK
import Derived.Test.YtkjfceajakhlfaaHEN
import Derived.Test.YtkjfceajakhlfaaHEC
import Derived.Test.YtkjfceajakhlfaaHEO
import Derived.Test.YtkjfceajakhlfaaHTZ
import Derived.Deep.CutBlock
namespace Go.Proofs.Ytkjfceajakhlfaa
set_option linter.unusedVariables false
set_option linter.unusedSimpArgs false
open Go.RowKit

section
variable {md : Region.Mode} {l : List Oper} {Q : Exit → Act → World → Prop} {S : World → Prop} {fuel : Nat} {listed : Array Bool} {a : Act} {w : World}
theorem take_q {i : Nat} {o : Oper} {rest : List Oper} {v : Value} (hy : ∀ w, S w → (execOp a.eval o).run Try.prog w = .ok (.value v) w) (hk : wpAnyH Try.prog md l.toArray Q S fuel (listed.setIfInBounds i true) (a.put o.dst v) w) (h : l.drop i = o :: rest := by rfl) (hs : Region.noSelect l.toArray = true := by kernel_rfl) (hf : Region.free md l.toArray listed i = true := by kernel_rfl) (hr : (Region.ready md l.toArray listed).contains i = true := by kernel_rfl)
    (hQ : ∀ c a w, Q (.panic c) (a.put o.dst v) w → Q (.panic c) a w := by exact fun _ _ _ h => h) (hw : Region.wanted o (yielded l.toArray a.tmps) = true := by rfl) (hS : S w := by assumption) : wpAnyH Try.prog md l.toArray Q S (fuel + 1) listed a w :=
  take_at h hs hf hr hQ (Or.inl ⟨hw, hy⟩) hS hk
end
theorem CMap.drewN {w : World} {b n : Nat} {zs : List Int} {S : Int → Int} (h : CMap w b n zs S) (k : Nat) : CMap (w.drewN k) b n zs S := h
theorem look_drewN {w : World} {b n : Nat} {zs : List Int} {S : Int → Int} (h : CMap w b n zs S) {x : Int} (hx : NIn x) : ∀ k : Nat, (Instr.lookup 100 (.map (some b)) (.int .i64 x) false).run Try.prog (w.drewN k) = .ok (.int .i64 (S x)) (w.drewN k) := fun k => (KMap.imap (h.drewN k)).look hx
theorem lies_five {W : World} {g : Nat} {ty : TypeId} {z0 z1 z2 z3 z4 : Value} (h : Lies W g ty #[z0, z1, z2, z3, z4]) (u0 u1 u2 u3 u4 : Value) : Lies (((((W.setCell ⟨g, 0, none⟩ u0).setCell ⟨g, 1, none⟩ u1).setCell ⟨g, 2, none⟩ u2).setCell ⟨g, 3, none⟩ u3).setCell ⟨g, 4, none⟩ u4) g ty #[u0, u1, u2, u3, u4] :=
  ((((h.store 0 u0).store 1 u1).store 2 u2).store 3 u3).store 4 u4
theorem cell_five {W : World} {g : Nat} (u0 u1 u2 u3 u4 : Value) {a : Addr} (ha : g ≠ a.block) : (((((W.setCell ⟨g, 0, none⟩ u0).setCell ⟨g, 1, none⟩ u1).setCell ⟨g, 2, none⟩ u2).setCell ⟨g, 3, none⟩ u3).setCell ⟨g, 4, none⟩ u4).cell? a = W.cell? a := by
  rw [World.cell?_setCell_far _ _ _ _ ha, World.cell?_setCell_far _ _ _ _ ha, World.cell?_setCell_far _ _ _ _ ha, World.cell?_setCell_far _ _ _ _ ha, World.cell?_setCell_far _ _ _ _ ha]
theorem below_5s {w0 W : World} {B g : Nat} (hb : Below B w0 W) (hg : B ≤ g) (u0 u1 u2 u3 u4 : Value) : Below B w0 (((((W.setCell ⟨g, 0, none⟩ u0).setCell ⟨g, 1, none⟩ u1).setCell ⟨g, 2, none⟩ u2).setCell ⟨g, 3, none⟩ u3).setCell ⟨g, 4, none⟩ u4) :=
  ((((hb.setCell hg u0).setCell hg u1).setCell hg u2).setCell hg u3).setCell hg u4
theorem items_five {W : World} {g g3 : Nat} {A3 : Option Addr} {c3 : Nat} {l : List (Int × Int)} (h : ItemsAt W (.slice A3 l.length c3) l) (hA : 0 < l.length → A3 = some ⟨g3, 0, none⟩) (hne : 0 < l.length → g ≠ g3) (u0 u1 u2 u3 u4 : Value) : ItemsAt (((((W.setCell ⟨g, 0, none⟩ u0).setCell ⟨g, 1, none⟩ u1).setCell ⟨g, 2, none⟩ u2).setCell ⟨g, 3, none⟩ u3).setCell ⟨g, 4, none⟩ u4) (.slice A3 l.length c3) l := by
  obtain ⟨A', c', b, o, e, hA', hc⟩ := h
  injection e with e1 e2 e3
  subst e1 e3
  refine ⟨_, _, b, o, rfl, hA', fun i hi => ?_⟩
  have h1 := hA' (by omega)
  rw [hA (by omega)] at h1
  injection h1 with h1
  injection h1 with h1 h2
  have h3 := hne (by omega)
  rw [cell_five _ _ _ _ _ (by simp only; omega), cell_five _ _ _ _ _ (by simp only; omega)]
  exact hc i hi
theorem lies_apart2 {W : World} {g g' : Nat} {ty ty' : TypeId} {cs cs' : Array Value} (h : Lies W g ty cs) (h' : Lies W g' ty' cs') (hne : ty ≠ ty') : g ≠ g' := by
  rintro rfl
  unfold Lies at h h'
  rw [h] at h'
  injection h' with h1
  injection h1 with h2 h3
  exact hne h3
/-- An issue that is there, with the block of its items. -/
theorem at_y {vI : Value} {xs : List Iss} {d l : Int} {w : World} (h : RegAt w vI xs) (h0 : layE xs = 0) (hd : d ∈ numbersL xs) (h1 : 1 ≤ l) (h2 : l ≤ lastOfR d 0 xs) : Calls Try.prog 26 #[.agg #[vI], .agg #[.int .i64 d, .int .i64 l]] w fun e w' => ∃ x A3 c3 A4 c4 g3, e = .returned (.tuple #[.agg #[.int .i64 d, .int .i64 l, .int .u8 x.k, .slice A3 x.items.length c3, .slice A4 x.dims.length c4], .int .i64 0]) ∧ ItemsAt w' (.slice A3 x.items.length c3) x.items ∧ (0 < x.items.length → A3 = some ⟨g3, 0, none⟩ ∧ ∃ cur, Lies w' g3 52 cur) ∧ (x ∈ xs ∧ x.d = d ∧ x.l = l) ∧ Below w.heap.size w w' := by
  refine (sAt_any d l h).mono ?_
  intro e w' h3
  obtain ⟨y, x, ee, rfl, hy, haq, hb⟩ := at_yat h3 0 (Nat.zero_le _)
  obtain ⟨h4, rfl, rfl, rfl⟩ := at_has h0 hd h1 h2 haq
  obtain ⟨A3, c3, g3, A4, c4, g4, rfl, h5, h6, h7, -⟩ := hy
  exact ⟨x, A3, c3, A4, c4, g3, rfl, h5, fun h => ⟨(h7 h).2.1, (h7 h).2.2.imp fun _ h => h.1⟩, ⟨h4, rfl, rfl⟩, hb⟩
theorem idx_s {w : World} {v : Value} {zs : List Int} {d : Int} {p : Nat} (h : IntsAt w v zs) (hl : zs.length ≤ 1000) (hp : idxL zs d = p) : Calls Try.prog 60 #[v, .int .i64 d] w fun e w' => e = .returned (.int .i64 (p : Int)) ∧ w = w' := by
  obtain ⟨A, c, b, off, rfl, hA, hc⟩ := h
  have h2 := rIndex_any A c b off zs d w hA hl hc
  rw [hp] at h2
  exact h2
theorem cell_nomap {w : World} {b n m : Nat} {K : Int → Bool} {S : Int → Int} (h : KMap w b n K m S) {a : Addr} {v : Value} (ha : w.cell? a = some v) : a.block ≠ b := by
  intro e
  obtain ⟨D, ⟨es, cl, h1, -⟩, -⟩ := h
  unfold World.cell? at ha
  rw [e, h1] at ha
  split at ha <;> (first | cases ha | (rename_i hq; cases hq))
/-- The row of products in memory. -/
def WAt (w : World) (p : Nat) (W : Int → Int) : Prop := ∃ cs : Array Value, Lies w p 101 cs ∧ cs.size = 6 ∧ ∀ e : Nat, e < 6 → cs[e]? = some (.int .i64 (W (e : Int)))
theorem WAt.after {w w' : World} {p : Nat} {W : Int → Int} (h : WAt w p W) (hb : Below w.heap.size w w') : WAt w' p W := by
  obtain ⟨cs, h1, h2⟩ := h
  exact ⟨cs, h1.after hb, h2⟩
theorem WAt.cell {w : World} {p : Nat} {W : Int → Int} (h : WAt w p W) {e : Nat} (he : e < 6) : w.cell? ⟨p, e, none⟩ = some (.int .i64 (W (e : Int))) := by
  obtain ⟨cs, h1, -, h3⟩ := h
  rw [h1.cell, h3 e he]
theorem WAt.set {w : World} {p : Nat} {W : Int → Int} (h : WAt w p W) {e : Nat} (he : e < 6) (v : Int) : WAt (w.setCell ⟨p, e, none⟩ (.int .i64 v)) p (fun x => if x = (e : Int) then v else W x) := by
  obtain ⟨cs, h1, h2, h3⟩ := h
  refine ⟨_, h1.store e _, by simpa using h2, fun f hf => ?_⟩
  by_cases he2 : f = e
  · subst he2
    simp [Array.getElem?_setIfInBounds, h2, hf]
  · show _ = some (Value.int .i64 (if ((f : Nat) : Int) = (e : Int) then v else W f))
    rw [if_neg (by omega), Array.getElem?_setIfInBounds_ne (by omega)]
    exact h3 f hf
theorem WAt.ext {w : World} {p : Nat} {W W' : Int → Int} (h : WAt w p W) (he : ∀ x, W x = W' x) : WAt w p W' := by
  rw [show W' = W from (funext he).symm]; exact h
theorem WAt.apart {w : World} {p g : Nat} {W : Int → Int} (h : WAt w p W) (hg : p ≠ g) (i : Nat) (u : Value) : WAt (w.setCell ⟨g, i, none⟩ u) p W := by
  obtain ⟨cs, h1, h2⟩ := h
  exact ⟨cs, h1.other hg u, h2⟩
theorem WAt.turned {w w1 : World} {p b n : Nat} {W : Int → Int} {zs : List Int} {S : Int → Int} (h : WAt w p W) (hm : CMap w b n zs S) (ht : w.mapTurned w1 b) : WAt w1 p W := by
  obtain ⟨cs, h1, h2⟩ := h
  exact ⟨cs, h1.turned1 ht ((KMap.imap hm).ne h1), h2⟩
theorem tree_two {xs : List Iss} {ls : List Int} {d : Int} (h : layE xs = 0) (hl : lettersB xs (numbersL xs) ls = true) (hd : d ∈ numbersL xs) : (treeE xs ls d).2 = 0 ∨ treeE xs ls d = ([], 4) := by
  unfold treeE
  rw [if_neg (by rw [ask_ok h hl hd]; simp)]
  split
  · exact .inr rfl
  · exact .inl rfl
set_option maxRecDepth 100000 in
set_option maxHeartbeats 16000000 in
theorem ends_ready {A : Option Addr} {c b off : Nat} {xs : List Iss} {vi vd : Nat → Value} {vB : Value} {by_ : List Int} (n : Nat) (w : World) (hn : n ≤ 255) (hm : xs.length ≤ 9223372036854775807) (hm2 : ∀ x ∈ xs, x.items.length ≤ 9223372036854775807 ∧ x.dims.length ≤ 9223372036854775807) (hA : 0 < xs.length → A = some ⟨b, off, none⟩) (hc : IssRow w b off xs vi vd) (hB : ByAt w vB by_) (hbl : by_.length ≤ 9223372036854775807) (hr1 : readyB xs = true) :
    Calls Try.prog 10 #[.agg #[.slice A xs.length c], vB, .int .u8 (n : Int)] w fun e w' => e = .returned (.bool true) ∧ Below w.heap.size w w' := by
  obtain ⟨hg1, h01⟩ := ready_parts hr1
  obtain ⟨hlen, hsml⟩ := great_no hg1
  have hr : RegAt w (.slice A xs.length c) xs := ⟨⟨A, c, b, off, rfl, hA, fun i hi => ⟨vi i, vd i, hc i hi⟩⟩, by omega, fun x hx => ⟨by have := (hsml x hx).1; omega, by have := (hsml x hx).2; omega⟩⟩
  have HQ1 := Lib.hid (fun W (hW : Below w.heap.size w W) => ready_any A c b off xs vi vd W hm hm2 hA (hc.after hW))
  rw [hr1] at HQ1
  have hsm := (layE_ok h01).2.2.1
  have hns := numbers_same (layE_ok h01).2.1
  have hps := numbers_strict (layE_ok h01).2.1
  have HLT := Lib.hid (fun W (h1 : RegAt W (.slice A xs.length c) xs) (h2 : ByAt W vB by_) => letters_any h1 h2 h01 hbl)
  have HDR := Lib.hid (fun W (h1 : RegAt W (.slice A xs.length c) xs) => drawing_any n hn h1 h01)
  have HNU := Lib.hid (fun W (h1 : RegAt W (.slice A xs.length c) xs) => rNumbers_v h1)
  rw [hns] at HNU
  have hls := letters_ok h01 hB.2
  have hlp := letters_len xs by_
  have hd := draw_mem h01 n
  have K := kit_of h01 hls
  have hax := ask_ok h01 hls hd
  have htw := tree_two h01 hls hd
  have htold := fun T (hT : treeE xs (lettersF xs by_) (drawF xs n) = (T, 0)) => ends_told h01 hls hd hT
  have hpr : explL xs (lettersF xs by_) (drawF xs n) = partsL xs (numbersL xs) (qOf xs (numbersL xs) (lettersF xs by_)) (drawF xs n) := by unfold explL; rw [if_pos hax]
  have hel := el_len xs (lettersF xs by_) (drawF xs n)
  have htl := tl_len xs (lettersF xs by_) (drawF xs n)
  -- each drawing, its letter and the issue that is taken
  have hpos := fun z (hz : z ∈ numbersL xs) => idx_spec hz
  have hlin := fun z (p : Nat) (hz : z ∈ numbersL xs) (hp : idxL (numbersL xs) z = p) => letter_in h01 hls hz hp
  have hlq := fun z (p : Nat) (hz : z ∈ numbersL xs) (hp : idxL (numbersL xs) z = p) => letter_q h01 hls hz hp
  have HTK := Lib.hid (fun z (p : Nat) (hz : z ∈ numbersL xs) (hp : idxL (numbersL xs) z = p) (y : Iss) (hy : y ∈ xs ∧ y.d = z ∧ y.l = (lettersF xs by_).getD p 0) => taken_is h01 hls hz hp hy.1 hy.2.1 hy.2.2)
  have HAY := Lib.hid (fun W z (p : Nat) (hz : z ∈ numbersL xs) (hp : idxL (numbersL xs) z = p) (h1 : RegAt W (.slice A xs.length c) xs) => at_y h1 h01 hz (letter_in h01 hls hz hp).2.1 (letter_in h01 hls hz hp).2.2)
  have HNB := Lib.hid (fun z (hz : z ∈ numbersL xs) => numbers_in (layE_ok h01).2.1 z hz)
  generalize drawF xs n = d at *
  generalize lettersF xs by_ = ls at *
  generalize qOf xs (numbersL xs) ls = q at *
  obtain ⟨T, tq, hte⟩ : ∃ l q, treeE xs ls d = (l, q) := ⟨_, _, rfl⟩
  obtain ⟨pl, hpe⟩ : ∃ l, explL xs ls d = l := ⟨_, rfl⟩
  rw [hte] at htl htw
  rw [hpe] at hel hpr
  have hcp0 : True := trivial
  simp only at htl htw
  have HKK := Lib.hid K
  have HPR := Lib.hid hpr
  have HTE := Lib.hid hte
  have HPE := Lib.hid hpe
  have HAX := Lib.hid hax
  have HPS := Lib.hid hps
  have HPOS := Lib.hid hpos
  have HLIN := Lib.hid hlin
  have HLQ := Lib.hid hlq
  have HDZ := Lib.hid hd
  have HTW := Lib.hid htw
  have HTOLD := Lib.hid (fun (h : tq = 0) => htold T (by rw [hte, h]))
  have hll : ls.length ≤ 20 := by omega
  have hnl : (numbersL xs).length ≤ 20 := hsm
  have HLZ := Lib.hid hlp
  have LB_0 := Lib.hid (Lies.made w 24 #[.slice A xs.length c])
  have RA_0 := Lib.hid (hr.after ((Below.refl _ w).alloc (Nat.le_refl _) (.cells #[.slice A xs.length c] 24)))
  obtain ⟨AB, cB, rfl⟩ := hB.slice
  have RB_0 := Lib.hid (hB.after ((Below.refl _ w).alloc (Nat.le_refl _) (.cells #[.slice A xs.length c] 24)))
  have hb0 : Below w.heap.size w (w.alloc (.cells #[.slice A xs.length c] 24)) := by exact BeL
  clear hA hc hm2 hm hsml hr hg1 h01 hr1 hB hbl hlp hls hns hps K hd hax htw htold hpr hte hpe hpos hlin hlq hsm
  go_enter Try.func10, Try.ntmps10
  go_wp2_with fail
  refine (alive_any _).mono ?_
  rintro e1 w1 ⟨rfl, hb⟩
  have hq1 : Below (w.alloc (.cells #[.slice A xs.length c] 24)).heap.size (w.alloc (.cells #[.slice A xs.length c] 24)) w1 := by exact BeL
  have LB_1 := Lib.hid (LB_0.out.after hq1)
  clear LB_0
  have RA_1 := Lib.hid (RA_0.out.after hq1)
  clear RA_0
  have RB_1 := Lib.hid (RB_0.out.after hq1)
  clear RB_0
  have hb1 : Below w.heap.size w w1 := hb0.trans (hq1.mono hb0.size)
  clear hb hq1
  have LBc := LB_1.out.cell 0
  have LBz := LB_1.out.lt
  go_wp2_with fail
  refine (HQ1.out _ (by exact BeL)).mono ?_
  rintro e2 w2 ⟨rfl, hb⟩
  have hq2 : Below w1.heap.size w1 w2 := by exact BeL
  clear LBc LBz
  have LB_2 := Lib.hid (LB_1.out.after hq2)
  clear LB_1
  have RA_2 := Lib.hid (RA_1.out.after hq2)
  clear RA_1
  have RB_2 := Lib.hid (RB_1.out.after hq2)
  clear RB_1
  have hb2 : Below w.heap.size w w2 := hb1.trans (hq2.mono hb1.size)
  clear hb hq2
  have LBc := LB_2.out.cell 0
  have LBz := LB_2.out.lt
  go_upto_region 4 with fail
  refine wp_region_held_drew (S := fun W => W.cell? ⟨w.heap.size, 0, none⟩ = some (.slice A xs.length c)) (by kernel_rfl) LBc (fun hHeld => ?_)
  refine take_z 0 ?_
  refine take_z 1 ?_
  refine take_z 3 ?_
  refine take_z 4 ?_
  refine wpAnyH_ready (rs := [2]) (by kernel_rfl) (by simp) ?_
  refine cons_at rfl (fun K hK => ?_) AllReadyH.nil
  (first | (go_at_call 57; refine (HLT.out _ (RA_2.out.after (by exact BeL)) (RB_2.out.after (by exact BeL))).mono ?_; rintro e3 w3 ⟨AL, cL, rfl, hil, ga3⟩; have hv3 : Below w2.heap.size w2 w3 := (by exact BeL); have LB3 := Lib.hid (LB_2.out.after hv3); have x3 := LB3.out.cell 0; have z3 := LB3.out.lt; have HS3 := Lib.hid hil; clear hil) | (go_simp; go_at_call 57; refine (HLT.out _ (RA_2.out.after (by exact BeL)) (RB_2.out.after (by exact BeL))).mono ?_; rintro e3 w3 ⟨AL, cL, rfl, hil, ga3⟩; have hv3 : Below w2.heap.size w2 w3 := (by exact BeL); have LB3 := Lib.hid (LB_2.out.after hv3); have x3 := LB3.out.cell 0; have z3 := LB3.out.lt; have HS3 := Lib.hid hil; clear hil))
  refine hK.out _ _ ?_ (fun hHeld => ?_)
  · exact x3
  clear hK K
  try simp only [Act.put, List.setIfInBounds_toArray, List.set_cons_zero, List.set_cons_succ]
  refine wpAnyH_ready (rs := [5]) (by kernel_rfl) (by simp) ?_
  refine cons_at rfl (fun K hK => ?_) AllReadyH.nil
  (first | (go_at_call 58; refine (HDR.out _ (RA_2.out.after hv3)).mono ?_; rintro e4 w4 ⟨rfl, ga4⟩; have hv4 : Below w2.heap.size w2 w4 := (by exact BeL); have LB4 := Lib.hid (LB_2.out.after hv4); have x4 := LB4.out.cell 0; have z4 := LB4.out.lt) | (go_simp; go_at_call 58; refine (HDR.out _ (RA_2.out.after hv3)).mono ?_; rintro e4 w4 ⟨rfl, ga4⟩; have hv4 : Below w2.heap.size w2 w4 := (by exact BeL); have LB4 := Lib.hid (LB_2.out.after hv4); have x4 := LB4.out.cell 0; have z4 := LB4.out.lt))
  refine hK.out _ _ ?_ (fun hHeld => ?_)
  · exact x4
  clear hK K
  try simp only [Act.put, List.setIfInBounds_toArray, List.set_cons_zero, List.set_cons_succ]
  refine take_z 6 ?_
  refine take_z 7 ?_
  refine wpAnyH_done (by kernel_rfl) ?_ _
  have hq4 : Below w2.heap.size w2 w4 := hv4
  clear LBc LBz
  have LB_4 := Lib.hid (LB_2.out.after hq4)
  clear LB_2
  have RA_4 := Lib.hid (RA_2.out.after hq4)
  clear RA_2
  have RB_4 := Lib.hid (RB_2.out.after hq4)
  clear RB_2
  have HS_4 := Lib.hid (HS3.out.after ga4)
  have hb4 : Below w.heap.size w w4 := hb2.trans (hq4.mono hb2.size)
  clear hv3 hv4 ga3 ga4 LB3 x3 z3 LB4 x4 z4 HS3 hq4
  clear RB_4
  have LBc := LB_4.out.cell 0
  have LBz := LB_4.out.lt
  go_wp2_with fail
  refine (expl_s RA_4.out HS_4.out (Nat.le_trans hll (by decide)) HAX.out HPE.out).mono ?_
  rintro e5 w5 ⟨A5, c5, rfl, hr, hb⟩
  have hq5 : Below w4.heap.size w4 w5 := by exact BeL
  clear LBc LBz
  have LB_5 := Lib.hid (LB_4.out.after hq5)
  clear LB_4
  have RA_5 := Lib.hid (RA_4.out.after hq5)
  clear RA_4
  have HS_5 := Lib.hid (HS_4.out.after hq5)
  clear HS_4
  have PA_5 := Lib.hid hr
  have hb5 : Below w.heap.size w w5 := hb4.trans (hq5.mono hb4.size)
  clear hr hb hq5
  have LBc := LB_5.out.cell 0
  have LBz := LB_5.out.lt
  go_wp2_with fail
  refine (tree_c RA_5.out HS_5.out (Nat.le_trans hll (by decide)) HTE.out).mono ?_
  rintro e6 w6 ⟨A6, c6, rfl, hr, hcp, hb⟩
  have hq6 : Below w5.heap.size w5 w6 := by exact BeL
  clear LBc LBz
  have LB_6 := Lib.hid (LB_5.out.after hq6)
  clear LB_5
  have RA_6 := Lib.hid (RA_5.out.after hq6)
  clear RA_5
  have HS_6 := Lib.hid (HS_5.out.after hq6)
  clear HS_5
  have PA_6 := Lib.hid (PA_5.out.after hq6)
  clear PA_5
  have TR_6 := Lib.hid hr
  have hb6 : Below w.heap.size w w6 := hb5.trans (hq6.mono hb5.size)
  clear hr hb hq6
  by_cases htq : tq = 0
  · subst htq
    have HTD := Lib.hid (HTOLD.out rfl)
    clear HTOLD HTW HTE HPE HAX HLT HDR HQ1
    have LBc := LB_6.out.cell 0
    have LBz := LB_6.out.lt
    go_wp2_with fail
    refine (HNU.out _ RA_6.out).mono ?_
    rintro e7 w7 ⟨vN, rfl, ho, hb⟩
    have hq7 : Below w6.heap.size w6 w7 := by exact BeL
    clear LBc LBz
    have LB_7 := Lib.hid (LB_6.out.after hq7)
    clear LB_6
    have RA_7 := Lib.hid (RA_6.out.after hq7)
    clear RA_6
    have HS_7 := Lib.hid (HS_6.out.after hq7)
    clear HS_6
    have PA_7 := Lib.hid (PA_6.out.after hq7)
    clear PA_6
    have TR_7 := Lib.hid (TR_6.out.after hq7)
    clear TR_6
    have NU_7 := Lib.hid (ints_of_own ho)
    have hb7 : Below w.heap.size w w7 := hb6.trans (hq7.mono hb6.size)
    clear ho hb hq7
    obtain ⟨hT, hTB, hTN, ⟨hT0, hTR⟩, hTE⟩ := HTD.out
    have HTT := Lib.hid hT
    have HTB := Lib.hid hTB
    have HTN := Lib.hid hTN
    have HTR := Lib.hid hTR
    have HTE := Lib.hid hTE
    obtain ⟨A', cN, bN, oN, rfl, hAN, hcN⟩ := NU_7.out
    obtain ⟨A2', c2', bL, oL, eL, hAL, hcL⟩ := HS_7.out
    injection eL with e1 e2 e3
    subst e1 e3
    have hd0 := List.length_pos_of_mem HDZ.out
    obtain rfl := hAL (by have := HLZ.out; omega)
    obtain ⟨A3', c3', bT, oT, eT, hAT, hcT⟩ := TR_7.out
    injection eT with e1 e2 e3
    subst e1 e3
    obtain rfl := hAT hT0
    have HCL := Lib.hid hcL
    have HCT := Lib.hid hcT
    have HBS := Lib.hid (fun i => ends_bd HKK.out HDZ.out (hTE (fun _ => 0)) i)
    have HPLM : Hid (((numbersL xs).filter fun z => decide (0 < cntP xs q d z)).length = pl.length) := Lib.hid (by rw [HPR.out]; unfold partsL; rw [List.length_map]; rfl)
    have HPM : Hid (∀ y ∈ pl, y.1 ∈ numbersL xs ∧ cntP xs q d y.1 = y.2) := Lib.hid (fun y hy => by
      rw [HPR.out] at hy
      obtain ⟨h1, h2, h3⟩ := parts_mem hy
      exact ⟨h1, h2.symm⟩)
    have HPO : Hid (pl.Pairwise fun a b => a.1 < b.1) := Lib.hid (by
      rw [HPR.out]
      exact parts_strict HPS.out d)
    have hpl20 : pl.length ≤ 20 := hel
    clear hT hTB hTN hTR hTE hAN hcN hAL hcL hAT hcT
    have hmm := @run_makeMap Try.prog
    go_wp2_with fail
    clear hmm
    have hT500 : T.length ≤ 500 := htl
    go_loopw [74] (fun i ws => ∃ ii nn : Nat, i = .int .i64 ii ∧ ii ≤ T.length ∧ nn ≤ ii ∧ Hid (CMap ws w7.heap.size nn (numbersL xs) (sumL (endsF (endI xs q) (fun _ => 0) (T.take ii)))) ∧ Hid (WAt ws (w7.heap.size + 1) ((T.take ii).foldl stepW (fun _ => 0))) ∧ Below w7.heap.size w7 ws) (fun i _ => T.length - (intOf i).toNat)
    case atStart =>
      refine ⟨0, 0, rfl, by omega, by omega, Lib.hid (KMap.alloc (CMap.made w7 (numbersL xs)) _), Lib.hid ⟨_, Lies.new (by simp), rfl, fun e he => ?_⟩, by exact BeL⟩
      have he6 : e = 0 ∨ e = 1 ∨ e = 2 ∨ e = 3 ∨ e = 4 ∨ e = 5 := by omega
      rcases he6 with rfl | rfl | rfl | rfl | rfl | rfl <;> rfl
    case round =>
      obtain ⟨ii, nn, rfl, hii, hnn, HM, HW, hb⟩ := hrel
      by_cases hit : ii < T.length
      · have kl1 : (ii : Int) < (T.length : Int) := by omega
        have i0 := cell_keep hb (HCT.out ii hit).1
        have i1 := cell_keep hb (HCT.out ii hit).2.1
        have i2 := cell_keep hb (HCT.out ii hit).2.2.1
        have i3 := cell_keep hb (HCT.out ii hit).2.2.2
        obtain ⟨⟨hD0, hD6⟩, ⟨hz, hlt, hc1, hc20⟩, hDp, hsp⟩ := HTB.out ii hit
        have hprev : 0 < ii → ∃ pb : Br, wr.cell? ⟨bT, oT + (ii - 1) * 4, none⟩ = some (.int .i64 pb.1) ∧ T[ii].1 ≤ pb.1 + 1 ∧ 0 ≤ pb.1 ∧ pb.1 < 6 := fun h0 => by
          obtain ⟨j, rfl⟩ : ∃ j, ii = j + 1 := ⟨ii - 1, by omega⟩
          exact ⟨T[j], cell_keep hb (HCT.out j (by omega)).1, HTN.out j hit, (HTB.out j (by omega)).1⟩
        have HPV := Lib.hid hprev
        have HE1 : Hid (endsF (endI xs q) (fun _ => 0) (T.take (ii + 1)) = endsF (endI xs q) (fun _ => 0) (T.take ii) ++ if endI xs q T[ii].2.1 = true then [(T[ii].2.1, stepW ((T.take ii).foldl stepW (fun _ => 0)) T[ii] T[ii].1)] else []) := Lib.hid (by
          rw [List.take_succ_eq_append_getElem hit, endsF_app, endsF, endsF, List.append_nil])
        have HE2 : Hid ((T.take (ii + 1)).foldl stepW (fun _ => 0) = stepW ((T.take ii).foldl stepW (fun _ => 0)) T[ii]) := Lib.hid (by
          rw [List.take_succ_eq_append_getElem hit, List.foldl_append]; rfl)
        have HSQ := Lib.hid (hsp T[ii] (T.drop (ii + 1)) (List.drop_eq_getElem_cons hit))
        have HZ := Lib.hid hz
        have HB1 := Lib.hid (HBS.out ii).1
        have HB2 := Lib.hid (HBS.out (ii + 1))
        obtain ⟨p, hp, ⟨hp', hpz⟩, hpi⟩ := HPOS.out _ hz
        obtain ⟨hpl, -, -⟩ := HLIN.out _ p hz hpi
        have HLL := Lib.hid ((HLQ.out _ p hz hpi).symm.trans hlt.symm)
        have hl2 := HLQ.out _ p hz hpi
        rw [← hlt, List.getD_eq_getElem?_getD, List.getElem?_eq_getElem hpl] at hl2
        have hl3 : T[ii].2.2.1 = ls[p] := hl2
        have j0 := cell_keep hb (HCL.out p hpl)
        rw [← hl3] at j0
        have hpl2 : (p : Int) < (ls.length : Int) := by omega
        have HPI := Lib.hid hpi
        have HT0 : Hid (ii = 0 → T[ii] = (0, d, T[ii].2.2.1, 1)) := Lib.hid (fun h0 => by
          subst h0
          rw [HTR.out])
        clear hprev hsp hp' hpz hpi hl2 hl3 hlt hz hp
        generalize T[ii] = x at *
        obtain ⟨D, z, lt, cc⟩ := x
        simp only at i0 i1 i2 i3 hD0 hD6 hc1 hc20 hDp j0 HZ HPI
        have hbs := hb.size
        have HLX := Lib.hid (Lies.made wr 103 #[.int .i64 D, .int .i64 z, .int .i64 lt, .int .i64 cc])
        have hnu := (NU_7.out.after hb)
        obtain ⟨wq, hwq⟩ : ∃ W, W = wr.alloc (.cells #[.int .i64 D, .int .i64 z, .int .i64 lt, .int .i64 cc] 103) := ⟨_, rfl⟩
        have hbq : Below w7.heap.size w7 wq := by rw [hwq]; exact hb.alloc hbs _
        have hrq : Below wr.heap.size wr wq := by rw [hwq]; exact (Below.refl _ _).alloc (Nat.le_refl _) _
        have HLQX : Hid (Lies wq wr.heap.size 103 #[.int .i64 D, .int .i64 z, .int .i64 lt, .int .i64 cc]) := Lib.hid (by rw [hwq]; exact Lies.made _ _ _)
        have HIX := Lib.hid (fun W (hW : Below wq.heap.size wq W) => idx_s (NU_7.out.after (hbq.trans (hW.mono hbq.size))) (by omega) HPI.out)
        have HHS := Lib.hid (fun W (hW : Below wq.heap.size wq W) => has_any z (NU_7.out.after (hbq.trans (hW.mono hbq.size))) (by omega))
        have HWQ := Lib.hid hwq
        clear hwq hnu
        have s0 := HLQX.out.cell 0
        have s1 := HLQX.out.cell 1
        have s2 := HLQX.out.cell 2
        have s3 := HLQX.out.cell 3
        have sj := cell_keep hrq j0
        have kD0 : ¬ D < 0 := by omega
        have kD6 : ¬ 6 ≤ D := by omega
        have kc1 : ¬ cc < 1 := by omega
        have kc2 : ¬ 20 < cc := by omega
        have gD0 : decide (D < 0) = false := decide_eq_false kD0
        have gD6 : decide (6 ≤ D) = false := decide_eq_false kD6
        have gc1 : decide (cc < 1) = false := decide_eq_false kc1
        have gc2 : decide (20 < cc) = false := decide_eq_false kc2
        have gz : decide (z ∈ numbersL xs) = true := decide_eq_true HZ.out
        go_upto_region 17 with fail
        rw [← HWQ.out]
        go_cut [152] (fun s152 wx => s152 = .bool false ∧ Below wq.heap.size wq wx)
        case first =>
          as_aux_lemma =>
            by_cases h0 : ii = 0
            · have ex := HT0.out h0
              injection ex with ex1 ex2
              injection ex2 with ex2 ex3
              injection ex3 with ex3 ex4
              subst ex1 ex2 ex4
              have hi0b : ((ii : Int) == 0) = true := by simp [h0]
              have hi1 : ¬ (0 : Int) < (ii : Int) := by omega
              have gi1 : decide ((0 : Int) < (ii : Int)) = false := decide_eq_false hi1
              have hi1n : ¬ 0 < ii := by omega
              have gi1n : decide (0 < ii) = false := decide_eq_false hi1n
              clear HPV hDp h0 ex3
              refine wp_region_held_drew (S := fun W => W.cell? ⟨wr.heap.size, 0, none⟩ = some (.int .i64 0) ∧ W.cell? ⟨wr.heap.size, 1, none⟩ = some (.int .i64 z) ∧ W.cell? ⟨wr.heap.size, 2, none⟩ = some (.int .i64 lt) ∧ W.cell? ⟨wr.heap.size, 3, none⟩ = some (.int .i64 1) ∧ W.cell? ⟨bL, oL + p, none⟩ = some (.int .i64 lt)) (by kernel_rfl) ⟨s0, s1, s2, s3, sj⟩ (fun hHeld => ?_)
              have hv0 : Below wq.heap.size wq wq.drew := (Below.refl _ _).drew
              refine take_z 0 ?_
              refine take_z 1 ?_
              refine take_z 2 ?_
              refine take_z 3 ?_
              refine take_z 4 ?_
              refine take_z 5 ?_
              refine take_z 6 ?_
              refine take_z 7 ?_
              refine take_z 8 ?_
              refine take_z 9 ?_
              refine take_z 10 ?_
              refine take_z 11 ?_
              refine take_z 12 ?_
              refine take_z 13 ?_
              refine take_z 14 ?_
              refine take_z 15 ?_
              refine take_z 16 ?_
              refine wpAnyH_ready (rs := [17]) (by kernel_rfl) (by simp) ?_
              refine cons_at rfl (fun K hK => ?_) AllReadyH.nil
              (first | (go_at_call 60; refine (HIX.out _ hv0).mono ?_; rintro e17 w17 ⟨rfl, rfl⟩) | (go_simp; go_at_call 60; refine (HIX.out _ hv0).mono ?_; rintro e17 w17 ⟨rfl, rfl⟩))
              refine hK.out _ _ ?_ (fun hHeld => ?_)
              · exact ⟨s0, s1, s2, s3, sj⟩
              clear hK K
              try simp only [Act.put, List.setIfInBounds_toArray, List.set_cons_zero, List.set_cons_succ]
              refine take_z 18 ?_
              refine take_z 19 ?_
              refine take_z 20 ?_
              refine take_z 21 ?_
              refine take_z 22 ?_
              refine take_z 23 ?_
              refine take_z 24 ?_
              refine take_z 25 ?_
              refine take_z 26 ?_
              refine take_z 27 ?_
              refine skip_z 28 ?_
              refine skip_z 29 ?_
              refine skip_z 30 ?_
              refine skip_z 31 ?_
              refine skip_z 32 ?_
              refine skip_z 33 ?_
              refine skip_z 34 ?_
              refine skip_z 35 ?_
              refine skip_z 36 ?_
              refine skip_z 37 ?_
              refine skip_z 38 ?_
              refine skip_z 39 ?_
              refine skip_z 40 ?_
              refine skip_z 41 ?_
              refine skip_z 42 ?_
              refine take_z 43 ?_
              refine take_z 44 ?_
              refine take_z 45 ?_
              refine take_z 46 ?_
              refine take_z 47 ?_
              refine take_z 48 ?_
              refine wpAnyH_ready (rs := [49]) (by kernel_rfl) (by simp) ?_
              refine cons_at rfl (fun K hK => ?_) AllReadyH.nil
              (first | (go_at_call 61; refine (HHS.out _ hv0).mono ?_; rintro e49 w49 ⟨rfl, gb49⟩) | (go_simp; go_at_call 61; refine (HHS.out _ hv0).mono ?_; rintro e49 w49 ⟨rfl, gb49⟩))
              have hv49 : Below wq.heap.size wq w49 := hv0.trans (gb49.mono hv0.size)
              have s0 := cell_keep hv49 s0
              have s1 := cell_keep hv49 s1
              have s2 := cell_keep hv49 s2
              have s3 := cell_keep hv49 s3
              have sj := cell_keep hv49 sj
              refine hK.out _ _ ?_ (fun hHeld => ?_)
              · exact ⟨s0, s1, s2, s3, sj⟩
              clear hK K
              try simp only [Act.put, List.setIfInBounds_toArray, List.set_cons_zero, List.set_cons_succ]
              refine take_z 50 ?_
              refine take_z 51 ?_
              refine take_z 52 ?_
              refine take_z 53 ?_
              refine take_z 54 ?_
              refine take_z 55 ?_
              refine take_z 56 ?_
              refine take_z 57 ?_
              refine take_z 58 ?_
              refine wpAnyH_ready (rs := [59]) (by kernel_rfl) (by simp) ?_
              refine cons_at rfl (fun K hK => ?_) AllReadyH.nil
              (first | (go_at_call 60; refine (HIX.out _ hv49).mono ?_; rintro e59 w59 ⟨rfl, rfl⟩) | (go_simp; go_at_call 60; refine (HIX.out _ hv49).mono ?_; rintro e59 w59 ⟨rfl, rfl⟩))
              refine hK.out _ _ ?_ (fun hHeld => ?_)
              · exact ⟨s0, s1, s2, s3, sj⟩
              clear hK K
              try simp only [Act.put, List.setIfInBounds_toArray, List.set_cons_zero, List.set_cons_succ]
              refine take_z 60 ?_
              refine take_z 61 ?_
              refine take_z 62 ?_
              refine take_z 63 ?_
              refine take_z 64 ?_
              refine take_z 65 ?_
              refine take_z 66 ?_
              refine take_z 67 ?_
              refine take_z 68 ?_
              refine take_z 69 ?_
              refine take_z 70 ?_
              refine take_z 71 ?_
              refine take_z 72 ?_
              refine take_z 73 ?_
              refine wpAnyH_done (by kernel_rfl) ?_ _
              go_wp2_with fail
              go_meet
              exact ⟨rfl, hv49⟩
            · obtain ⟨pb, q0, hpb, hpb0, hpb6⟩ := HPV.out (by omega)
              obtain ⟨jj, hjj⟩ : ∃ j, j = ii - 1 := ⟨_, rfl⟩
              have q0 := cell_keep hrq q0
              rw [← hjj] at q0
              have hD1 := hDp (by omega)
              have hi0b : ((ii : Int) == 0) = false := by rw [beq_eq_false_iff_ne]; omega
              have hi0d : ¬ (ii : Int) = 0 := by omega
              have hi1 : (0 : Int) < (ii : Int) := by omega
              have gi1 : decide ((0 : Int) < (ii : Int)) = true := decide_eq_true hi1
              have hi1n : 0 < ii := by omega
              have gi1n : decide (0 < ii) = true := decide_eq_true hi1n
              have hi0n : ¬ ii = 0 := by omega
              have kD1 : ¬ D < 1 := by omega
              have gD1 : decide (D < 1) = false := decide_eq_false kD1
              have kw1 : IntKind.i64.wrap ((ii : Int) - 1) = (jj : Int) := by rw [IntWalk.i64_in _ (by omega)]; omega
              have kw2 : (jj : Int) < (T.length : Int) := by omega
              have kw3 : IntKind.i64.wrap (pb.1 + 1) = pb.1 + 1 := IntWalk.i64_in _ (by omega)
              have kwj : IntKind.i64.wrap (jj : Int) = (jj : Int) := IntWalk.i64_in _ (by omega)
              have kDp : ¬ pb.1 + 1 < D := by omega
              have gDp : decide (pb.1 + 1 < D) = false := decide_eq_false kDp
              clear HPV hDp hjj h0
              refine wp_region_held_drew (S := fun W => W.cell? ⟨wr.heap.size, 0, none⟩ = some (.int .i64 D) ∧ W.cell? ⟨wr.heap.size, 1, none⟩ = some (.int .i64 z) ∧ W.cell? ⟨wr.heap.size, 2, none⟩ = some (.int .i64 lt) ∧ W.cell? ⟨wr.heap.size, 3, none⟩ = some (.int .i64 cc) ∧ W.cell? ⟨bL, oL + p, none⟩ = some (.int .i64 lt) ∧ W.cell? ⟨bT, oT + jj * 4, none⟩ = some (.int .i64 pb.1)) (by kernel_rfl) ⟨s0, s1, s2, s3, sj, q0⟩ (fun hHeld => ?_)
              have hv0 : Below wq.heap.size wq wq.drew := (Below.refl _ _).drew
              refine take_z 0 ?_
              refine take_z 1 ?_
              refine take_z 2 ?_
              refine take_z 3 ?_
              refine take_z 4 ?_
              refine take_z 5 ?_
              refine take_z 6 ?_
              refine take_z 7 ?_
              refine take_z 8 ?_
              refine take_z 9 ?_
              refine take_z 10 ?_
              refine take_z 11 ?_
              refine skip_z 12 ?_
              refine skip_z 13 ?_
              refine skip_z 14 ?_
              refine skip_z 15 ?_
              refine skip_z 16 ?_
              refine wpAnyH_ready (rs := [17]) (by kernel_rfl) (by simp) ?_
              refine cons_at rfl (fun K hK => ?_) AllReadyH.nil
              go_simp
              refine hK.out _ _ ?_ (fun hHeld => ?_)
              · exact ⟨s0, s1, s2, s3, sj, q0⟩
              clear hK K
              try simp only [Act.put, List.setIfInBounds_toArray, List.set_cons_zero, List.set_cons_succ]
              refine skip_z 18 ?_
              refine skip_z 19 ?_
              refine skip_z 20 ?_
              refine skip_z 21 ?_
              refine take_z 22 ?_
              refine take_z 23 ?_
              refine take_z 24 ?_
              refine take_z 25 ?_
              refine take_z 26 ?_
              refine take_z 27 ?_
              refine take_z 28 ?_
              refine take_z 29 ?_
              refine take_z 30 ?_
              refine take_z 31 ?_
              refine take_z 32 ?_
              refine take_z 33 ?_
              refine take_z 34 ?_
              refine take_z 35 ?_
              refine take_z 36 ?_
              refine take_z 37 ?_
              refine take_z 38 ?_
              refine take_z 39 ?_
              refine take_z 40 ?_
              refine take_z 41 ?_
              refine take_z 42 ?_
              refine take_z 43 ?_
              refine take_z 44 ?_
              refine take_z 45 ?_
              refine take_z 46 ?_
              refine take_z 47 ?_
              refine take_z 48 ?_
              refine wpAnyH_ready (rs := [49]) (by kernel_rfl) (by simp) ?_
              refine cons_at rfl (fun K hK => ?_) AllReadyH.nil
              (first | (go_at_call 61; refine (HHS.out _ hv0).mono ?_; rintro e49 w49 ⟨rfl, gb49⟩) | (go_simp; go_at_call 61; refine (HHS.out _ hv0).mono ?_; rintro e49 w49 ⟨rfl, gb49⟩))
              have hv49 : Below wq.heap.size wq w49 := hv0.trans (gb49.mono hv0.size)
              have s0 := cell_keep hv49 s0
              have s1 := cell_keep hv49 s1
              have s2 := cell_keep hv49 s2
              have s3 := cell_keep hv49 s3
              have sj := cell_keep hv49 sj
              have q0 := cell_keep hv49 q0
              refine hK.out _ _ ?_ (fun hHeld => ?_)
              · exact ⟨s0, s1, s2, s3, sj, q0⟩
              clear hK K
              try simp only [Act.put, List.setIfInBounds_toArray, List.set_cons_zero, List.set_cons_succ]
              refine take_z 50 ?_
              refine take_z 51 ?_
              refine take_z 52 ?_
              refine take_z 53 ?_
              refine take_z 54 ?_
              refine take_z 55 ?_
              refine take_z 56 ?_
              refine take_z 57 ?_
              refine take_z 58 ?_
              refine wpAnyH_ready (rs := [59]) (by kernel_rfl) (by simp) ?_
              refine cons_at rfl (fun K hK => ?_) AllReadyH.nil
              (first | (go_at_call 60; refine (HIX.out _ hv49).mono ?_; rintro e59 w59 ⟨rfl, rfl⟩) | (go_simp; go_at_call 60; refine (HIX.out _ hv49).mono ?_; rintro e59 w59 ⟨rfl, rfl⟩))
              refine hK.out _ _ ?_ (fun hHeld => ?_)
              · exact ⟨s0, s1, s2, s3, sj, q0⟩
              clear hK K
              try simp only [Act.put, List.setIfInBounds_toArray, List.set_cons_zero, List.set_cons_succ]
              refine take_z 60 ?_
              refine take_z 61 ?_
              refine take_z 62 ?_
              refine take_z 63 ?_
              refine take_z 64 ?_
              refine take_z 65 ?_
              refine take_z 66 ?_
              refine take_z 67 ?_
              refine take_z 68 ?_
              refine take_z 69 ?_
              refine take_z 70 ?_
              refine take_z 71 ?_
              refine take_z 72 ?_
              refine take_z 73 ?_
              refine wpAnyH_done (by kernel_rfl) ?_ _
              go_wp2_with fail
              go_meet
              exact ⟨rfl, hv49⟩
        case rest =>
          obtain ⟨rfl, hbx⟩ := hcut
          obtain ⟨wx, rfl⟩ : ∃ z, z = wc := ⟨_, rfl⟩
          obtain ⟨e, rfl⟩ : ∃ e : Nat, D = (e : Int) := ⟨D.toNat, by omega⟩
          have he6 : e < 6 := by omega
          have hrx : Below wr.heap.size wr wx := hrq.trans (hbx.mono hrq.size)
          have HMX := Lib.hid (KMap.after HM.out hrx)
          have HWX := Lib.hid (HW.out.after hrx)
          have HX2 := Lib.hid (HLQX.out.after hbx)
          have hvx : Below w7.heap.size w7 wx := hbq.trans (hbx.mono hbq.size)
          have hpw : w7.heap.size + 1 < wr.heap.size := by obtain ⟨cs, h1, -⟩ := HW.out; exact h1.lt
          clear s0 s1 s2 s3 sj i0 i1 i2 i3 j0 HPV HT0 HIX HHS kD0 kD6 kc1 kc2 gD0 gD6 gc1 gc2 gz HLX HLQX HM HW
          have HBD : Hid (∀ f : Nat, 0 ≤ (T.take ii).foldl stepW (fun _ => 0) (f : Int) ∧ (T.take ii).foldl stepW (fun _ => 0) (f : Int) ≤ 20 ^ (f + 1)) := Lib.hid (fun f => step_bd (fun b hb => by
            obtain ⟨i, hi, rfl⟩ := List.getElem_of_mem (List.mem_of_mem_take hb)
            obtain ⟨h1, h2, -⟩ := HTB.out i hi
            exact ⟨h1.1, h2.2.2⟩) (fun f => ⟨Int.le_refl _, Int.le_of_lt (Int.pow_pos (by omega))⟩) f)
          generalize hfw : (T.take ii).foldl stepW (fun _ => 0) = Wp at *
          generalize endsF (endI xs q) (fun _ => 0) (T.take ii) = E at *
          have s0 := HX2.out.cell 0
          have s3 := HX2.out.cell 3
          have sz := HX2.out.lt
          have we : wx.cell? ⟨w7.heap.size + 1, e, none⟩ = some (.int .i64 (Wp (e : Int))) := HWX.out.cell he6
          have wf : wx.frozen? ⟨w7.heap.size + 1, e, none⟩ = false := by obtain ⟨cs, h1, -⟩ := HWX.out; exact h1.free e
          have ke : (e : Int) < 6 := by omega
          have hLW := HWX.out.set he6 cc
          have HX3 := Lib.hid (HX2.out.other (p := ⟨w7.heap.size + 1, e, none⟩) (by simp only; omega) (.int .i64 cc))
          have HM3 := Lib.hid (KMap.kept HMX.out (Below.heap_setCell wx ⟨w7.heap.size + 1, e, none⟩ (.int .i64 cc) w7.heap.size (by show w7.heap.size ≠ w7.heap.size + 1; omega)))
          have hv3 := hvx.setCell (p := ⟨w7.heap.size + 1, e, none⟩) (Nat.le_succ _) (.int .i64 cc)
          have HLW := Lib.hid hLW
          go_upto_region 20 with fail
          clear s0 s3 sz we wf HX2 HMX HWX hLW hrx hfw
          obtain ⟨wv, hwv⟩ : ∃ W, W = wx.setCell ⟨w7.heap.size + 1, e, none⟩ (.int .i64 cc) := ⟨_, rfl⟩
          rw [← hwv] at HX3 HM3 hv3 HLW
          rw [← hwv]
          clear hwv
          have s0 := HX3.out.cell 0
          have sz := HX3.out.lt
          go_upto_if 160 with fail
          go_cut [] (fun wy => Hid (WAt wy (w7.heap.size + 1) (stepW Wp ((e : Int), z, lt, cc))) ∧ Hid (Lies wy wr.heap.size 103 #[.int .i64 (e : Int), .int .i64 z, .int .i64 lt, .int .i64 cc]) ∧ Hid (CMap wy w7.heap.size nn (numbersL xs) (sumL E)) ∧ Below w7.heap.size w7 wy)
          case first =>
            as_aux_lemma =>
              by_cases e0 : e = 0
              · have kp : ¬ 0 < (e : Int) := by omega
                have gp : decide (0 < (e : Int)) = false := decide_eq_false kp
                have kpn : ¬ 0 < e := by omega
                have gpn : decide (0 < e) = false := decide_eq_false kpn
                have HW4 : Hid (WAt wv (w7.heap.size + 1) (stepW Wp ((e : Int), z, lt, cc))) := Lib.hid (HLW.out.ext fun x => by
                  unfold stepW
                  simp only [if_neg kp])
                clear e0
                go_wp2_with fail
                go_meet
                exact ⟨HW4, HX3, HM3, hv3⟩
              · have kp : 0 < (e : Int) := by omega
                have gp : decide (0 < (e : Int)) = true := decide_eq_true kp
                have kpn : 0 < e := by omega
                have gpn : decide (0 < e) = true := decide_eq_true kpn
                have hwe := HLW.out.cell he6
                rw [if_pos rfl] at hwe
                obtain ⟨f, hf⟩ : ∃ f, f = e - 1 := ⟨_, rfl⟩
                have hwp := HLW.out.cell (e := f) (by omega)
                rw [if_neg (by omega)] at hwp
                have hf6 : f < 6 := by omega
                have hb2 : Wp (f : Int) ≤ 64000000 := Int.le_trans (HBD.out f).2 (pow_six hf6)
                have hb0 := (HBD.out f).1
                clear HBD
                have hm0 : 0 ≤ cc * Wp (f : Int) := Int.mul_nonneg (by omega) hb0
                have hm1 : cc * Wp (f : Int) ≤ 20 * 64000000 := Int.mul_le_mul (by omega) hb2 hb0 (by omega)
                have kwm : IntKind.i64.wrap (cc * Wp (f : Int)) = cc * Wp (f : Int) := IntWalk.i64_in _ (by omega)
                have kwf : IntKind.i64.wrap ((e : Int) - 1) = (f : Int) := by rw [IntWalk.i64_in _ (by omega)]; omega
                have kwf2 : IntKind.i64.wrap (f : Int) = (f : Int) := IntWalk.i64_in _ (by omega)
                have kf6 : (f : Int) < 6 := by omega
                have HW4 : Hid (WAt (wv.drew.setCell ⟨w7.heap.size + 1, e, none⟩ (.int .i64 (cc * Wp (f : Int)))) (w7.heap.size + 1) (stepW Wp ((e : Int), z, lt, cc))) := Lib.hid ((WAt.set (HLW.out.after ((Below.refl _ wv).drew)) he6 (cc * Wp (f : Int))).ext fun x => by
                  unfold stepW
                  simp only [if_pos kp]
                  have e1 : (e : Int) - 1 = (f : Int) := by omega
                  rw [e1]
                  by_cases hx : x = (e : Int)
                  · rw [if_pos hx, if_pos hx]
                  · simp only [if_neg hx])
                have wf : wv.drew.frozen? ⟨w7.heap.size + 1, e, none⟩ = false := by obtain ⟨cs, h1, -⟩ := HLW.out; exact h1.free e
                have hef : f ≠ e := by omega
                clear e0 hf
                go_upto_region 21 with fail
                refine wp_region_held_drew (S := fun W => W.cell? ⟨wr.heap.size, 0, none⟩ = some (.int .i64 (e : Int)) ∧ W.cell? ⟨w7.heap.size + 1, f, none⟩ = some (.int .i64 (Wp (f : Int)))) (by kernel_rfl) ⟨s0, hwp⟩ (fun hHeld => ?_)
                have s0d : wv.drew.cell? ⟨wr.heap.size, 0, none⟩ = some (.int .i64 (e : Int)) := s0
                have hwpd : wv.drew.cell? ⟨w7.heap.size + 1, f, none⟩ = some (.int .i64 (Wp (f : Int))) := hwp
                have hwed : wv.drew.cell? ⟨w7.heap.size + 1, e, none⟩ = some (.int .i64 cc) := hwe
                refine take_z 0 ?_
                refine take_z 1 ?_
                refine take_z 2 ?_
                refine take_z 4 ?_
                refine take_z 5 ?_
                refine take_z 6 ?_
                refine take_z 7 ?_
                refine take_z 8 ?_
                refine wpAnyH_ready (rs := [3]) (by kernel_rfl) (by simp) ?_
                refine cons_at rfl (fun K hK => ?_) AllReadyH.nil
                go_simp
                refine hK.out _ _ ?_ (fun hHeld => ?_)
                · exact ⟨s0d, hwpd⟩
                clear hK K
                try simp only [Act.put, List.setIfInBounds_toArray, List.set_cons_zero, List.set_cons_succ]
                refine take_z 9 ?_
                refine take_z 10 ?_
                refine wpAnyH_ready (rs := [11]) (by kernel_rfl) (by simp) ?_
                refine cons_at rfl (fun K hK => ?_) AllReadyH.nil
                go_simp
                refine hK.out _ _ ?_ (fun hHeld => ?_)
                · exact ⟨(World.cell?_setCell_far _ _ _ _ (by simp only; omega)).trans s0d, (World.cell?_setCell_other _ _ _ _ (fun h => by injection h with h1 h2; omega)).trans hwpd⟩
                clear hK K
                try simp only [Act.put, List.setIfInBounds_toArray, List.set_cons_zero, List.set_cons_succ]
                refine wpAnyH_done (by kernel_rfl) ?_ _
                go_wp2_with fail
                go_meet
                exact ⟨HW4, Lib.hid (HX3.out.other (p := ⟨w7.heap.size + 1, e, none⟩) (by simp only; omega) _), Lib.hid (KMap.kept HM3.out (Below.heap_setCell wv ⟨w7.heap.size + 1, e, none⟩ _ w7.heap.size (by show w7.heap.size ≠ w7.heap.size + 1; omega))), hv3.drew.setCell (p := ⟨w7.heap.size + 1, e, none⟩) (Nat.le_succ _) _⟩
          case rest =>
            obtain ⟨HWY, HXY, HMY, hvy⟩ := hcut
            obtain ⟨wy, rfl⟩ : ∃ z, z = wc := ⟨_, rfl⟩
            have HLL2 : Hid (ls.getD p 0 = lt) := Lib.hid HLL.out
            have hay := HAY.out _ z p HZ.out HPI.out (RA_7.out.after hvy)
            rw [HLL2.out] at hay
            have HTK2 := Lib.hid (HTK.out z p HZ.out HPI.out)
            rw [HLL2.out] at HTK2
            obtain ⟨A', c', hsl, hRL⟩ := tree_tail (k := ii + 1) (i := (ii : Int) + 1) TR_7.out hit hcp rfl
            have HRL := Lib.hid hRL
            have hL5 : (T.drop (ii + 1)).length ≤ 500 := by rw [List.length_drop]; omega
            have hL6 : ii + 1 + (T.drop (ii + 1)).length ≤ 500 := by rw [List.length_drop]; omega
            have kw1 : IntKind.i64.wrap ((ii : Int) + 1) = (ii : Int) + 1 := IntWalk.i64_in _ (by omega)
            generalize T.drop (ii + 1) = L at *
            generalize wr.heap.size = gx at *
            have xb := (LB_7.out.after hvy).cell 0
            have zb := (LB_7.out.after hvy).lt
            have t0 := HXY.out.cell 0
            have t1 := HXY.out.cell 1
            have t2 := HXY.out.cell 2
            have t3 := HXY.out.cell 3
            have zt := HXY.out.lt
            have he6b := he6
            clear HBD HLL hRL hD0 hD6
            go_wp2_with fail
            refine hay.mono ?_
            rintro e8 w8 ⟨y, A3, c3, A4, c4, g3, rfl, hIT8, -, hy8, gb8⟩
            have HTX := Lib.hid (HTK2.out y hy8)
            clear hay HTK2 hy8 xb zb t0 t1 t2 t3 zt
            go_upto_block 2 with fail
            obtain ⟨wz, hwz⟩ : ∃ W, W = w8.alloc (.cells #[.int .i64 z, .int .i64 lt, .int .u8 y.k, .slice A3 y.items.length c3, .slice A4 y.dims.length c4] 45) := ⟨_, rfl⟩
            have hbz8 : Below w8.heap.size w8 wz := by rw [hwz]; exact (Below.refl _ _).alloc (Nat.le_refl _) _
            have HYZ : Hid (Lies wz w8.heap.size 45 #[.int .i64 z, .int .i64 lt, .int .u8 y.k, .slice A3 y.items.length c3, .slice A4 y.dims.length c4]) := Lib.hid (by rw [hwz]; exact Lies.made _ _ _)
            rw [← hwz]
            clear hwz hsl
            have hyz : Below wy.heap.size wy wz := gb8.trans (hbz8.mono gb8.size)
            have HXZ := Lib.hid (HXY.out.after hyz)
            have HWZ := Lib.hid (HWY.out.after hyz)
            have HMZ := Lib.hid (KMap.after HMY.out hyz)
            have HIZ := Lib.hid (hIT8.after hbz8)
            have hvz : Below w7.heap.size w7 wz := hvy.trans (hyz.mono hvy.size)
            have HRZ := Lib.hid (HRL.out.after hvz)
            clear HWY HXY HMY hIT8 gb8 hbz8 hyz HRL hvy
            generalize w8.heap.size = gy at *
            have hin := inner_of HKK.out HZ.out HTX.out HSQ.out
            have hil8 := (HKK.out.itm HZ.out).1
            rw [HTX.out] at hil8
            have HEI : Hid (endI xs q z = y.items.isEmpty) := Lib.hid (by unfold endI; rw [HTX.out])
            clear HTX HSQ
            generalize y.items = il at *
            obtain ⟨m, cnt, hmL, hc0, hcm, hdeep, hstop, hyes, hno⟩ := hin
            have HC0 := Lib.hid hc0
            have HCM := Lib.hid hcm
            have HDP := Lib.hid hdeep
            have HST := Lib.hid hstop
            have HYS := Lib.hid hyes
            have HNO := Lib.hid hno
            clear hc0 hcm hdeep hstop hyes hno
            go_cut [21] (fun s21 wx => s21 = .int .i64 (il.length : Int) ∧ Below wz.heap.size wz wx)
            case first =>
              as_aux_lemma =>
                obtain ⟨A'', c'', bR, oR, eR, hAR, hcR⟩ := HRZ.out
                injection eR with e1 e2 e3
                subst e1 e3
                have HAR := Lib.hid hAR
                have HCR := Lib.hid hcR
                obtain ⟨A'', c'', bI, oI, eI, hAI, hcI⟩ := HIZ.out
                injection eI with e1 e2 e3
                subst e1 e3
                have HAI := Lib.hid hAI
                have HCI := Lib.hid hcI
                clear hAR hcR hAI hcI HRZ HIZ HMZ HWZ HE1 HE2 HB1 HB2 HEI
                go_wp2_with fail
                go_loopw [21, 189] (fun s j ws => ∃ jj : Nat, j = .int .i64 jj ∧ jj ≤ m ∧ s = .int .i64 ((cnt jj : Nat) : Int) ∧ Below wz.heap.size wz ws) (fun _ j _ => L.length - (intOf j).toNat)
                case atStart => exact ⟨0, rfl, Nat.zero_le _, by rw [HC0.out]; rfl, Below.refl _ _⟩
                case round =>
                  obtain ⟨jj, rfl, hjm, rfl, hb2⟩ := hrel
                  by_cases hjt : jj < L.length
                  · have kl2 : (jj : Int) < (L.length : Int) := by omega
                    obtain rfl := HAR.out (by omega)
                    have r0 := cell_keep hb2 (HCR.out jj hjt).1
                    have r1 := cell_keep hb2 (HCR.out jj hjt).2.1
                    have r2 := cell_keep hb2 (HCR.out jj hjt).2.2.1
                    have r3 := cell_keep hb2 (HCR.out jj hjt).2.2.2
                    have q0 := cell_keep hb2 (HXZ.out.cell 0)
                    have qz := (HXZ.out.after hb2).lt
                    have hs2 := hb2.size
                    have kw2 : IntKind.i64.wrap ((e : Int) + 1) = (e : Int) + 1 := IntWalk.i64_in _ (by omega)
                    have kw3 : IntKind.i64.wrap ((jj : Int) + 1) = (jj : Int) + 1 := IntWalk.i64_in _ (by omega)
                    have LR := Lib.hid (Lies.made wr 103 #[.int .i64 ((L[jj]).1), .int .i64 ((L[jj]).2.1), .int .i64 ((L[jj]).2.2.1), .int .i64 ((L[jj]).2.2.2)])
                    by_cases hd : (L[jj]).1 ≤ (e : Int)
                    · obtain rfl : jj = m := by
                        by_cases h : jj < m
                        · have := HDP.out jj hjt h; omega
                        · omega
                      rw [HCM.out]
                      generalize L[jj] = x at *
                      obtain ⟨xa, xb, xc, xd⟩ := x
                      simp only at r0 r1 r2 r3 hd
                      have gd : decide (xa ≤ (e : Int)) = true := decide_eq_true hd
                      go_wp2_with fail
                      go_meet
                      exact ⟨rfl, hb2.alloc hs2 _⟩
                    · have hjm2 : jj < m := by
                        by_cases h : jj < m
                        · exact h
                        · have := HST.out jj hjt (by omega); omega
                      by_cases he1 : (L[jj]).1 = (e : Int) + 1
                      · obtain ⟨⟨hcn, hci⟩, hcs⟩ := HYS.out jj hjt hjm2 he1
                        obtain ⟨o0, o1⟩ := HCI.out (cnt jj) hcn
                        rw [hci] at o0 o1
                        have p0 := cell_keep hb2 o0
                        have p1 := cell_keep hb2 o1
                        clear o0 o1
                        obtain rfl := HAI.out (by omega)
                        have HCS := Lib.hid hcs
                        have y3 := cell_keep hb2 (HYZ.out.cell 3)
                        have yz := (HYZ.out.after hb2).lt
                        generalize L[jj] = x at *
                        obtain ⟨xa, xb, xc, xd⟩ := x
                        simp only at r0 r1 r2 r3 hd he1 p0 p1
                        subst he1
                        generalize hcj : cnt jj = cj at *
                        have hd2 : ¬ (e : Int) + 1 ≤ (e : Int) := hd
                        have gd : decide ((e : Int) + 1 ≤ (e : Int)) = false := decide_eq_false hd
                        have kc1 : (cj : Int) < (il.length : Int) := by omega
                        have kc2 : ¬ (il.length : Int) ≤ (cj : Int) := by omega
                        have kc3 : ¬ il.length ≤ cj := by omega
                        have gc1 : decide ((il.length : Int) ≤ (cj : Int)) = false := decide_eq_false kc2
                        have gc2 : decide (il.length ≤ cj) = false := decide_eq_false kc3
                        have kw4 : IntKind.i64.wrap ((cj : Int) + 1) = (cj : Int) + 1 := IntWalk.i64_in _ (by omega)
                        clear hci hcs hcj
                        go_upto_region 31 with fail
                        have f0 := keep_nw (o := .cells #[.int .i64 ((e : Int) + 1), .int .i64 xb, .int .i64 xc, .int .i64 xd] 103) y3
                        have f1 := keep_nw (o := .cells #[.int .i64 ((e : Int) + 1), .int .i64 xb, .int .i64 xc, .int .i64 xd] 103) p0
                        have f2 := keep_nw (o := .cells #[.int .i64 ((e : Int) + 1), .int .i64 xb, .int .i64 xc, .int .i64 xd] 103) p1
                        have f3 := LR.out.cell 1
                        have f4 := LR.out.cell 3
                        refine wp_region_held_drew (S := fun W => W.cell? ⟨gy, 3, none⟩ = some (.slice (some ⟨bI, oI, none⟩) il.length c3) ∧ W.cell? ⟨bI, oI + cj * 2, none⟩ = some (.int .i64 xb) ∧ W.cell? ⟨bI, oI + cj * 2 + 1, none⟩ = some (.int .i64 xd) ∧ W.cell? ⟨wr.heap.size, 1, none⟩ = some (.int .i64 xb) ∧ W.cell? ⟨wr.heap.size, 3, none⟩ = some (.int .i64 xd)) (by kernel_rfl) ⟨f0, f1, f2, f3, f4⟩ (fun hHeld => ?_)
                        refine take_z 0 ?_
                        refine take_z 1 ?_
                        refine take_z 2 ?_
                        refine take_z 3 ?_
                        refine take_z 4 ?_
                        refine take_z 5 ?_
                        refine take_z 6 ?_
                        refine take_z 7 ?_
                        refine take_z 8 ?_
                        refine take_z 9 ?_
                        refine take_z 10 ?_
                        refine take_z 11 ?_
                        refine take_z 12 ?_
                        refine take_z 13 ?_
                        refine take_z 14 ?_
                        refine wpAnyH_ready (rs := [15]) (by kernel_rfl) (by simp) ?_
                        refine cons_at rfl (fun K hK => ?_) AllReadyH.nil
                        (first | (go_at_call 54; refine (item_any _ _ _).mono ?_; rintro e15 w15 ⟨rfl, gb15⟩; have hv15 : Below wz.heap.size wz w15 := (hb2.alloc hs2 _).drew.trans (gb15.mono (hb2.alloc hs2 _).drew.size)) | (go_simp; go_at_call 54; refine (item_any _ _ _).mono ?_; rintro e15 w15 ⟨rfl, gb15⟩; have hv15 : Below wz.heap.size wz w15 := (hb2.alloc hs2 _).drew.trans (gb15.mono (hb2.alloc hs2 _).drew.size)))
                        refine hK.out _ _ ?_ (fun hHeld => ?_)
                        · exact ⟨cell_keep gb15 f0, cell_keep gb15 f1, cell_keep gb15 f2, cell_keep gb15 f3, cell_keep gb15 f4⟩
                        clear hK K
                        try simp only [Act.put, List.setIfInBounds_toArray, List.set_cons_zero, List.set_cons_succ]
                        refine take_z 16 ?_
                        refine take_z 17 ?_
                        refine wpAnyH_done (by kernel_rfl) ?_ _
                        go_wp2_with fail
                        go_roundw
                        case rel => exact ⟨jj + 1, by go_num, by omega, by rw [HCS.out]; go_num, hv15⟩
                        case measure => simp [intOf]; omega
                      · have HCS := Lib.hid (HNO.out jj hjt hjm2 he1)
                        generalize L[jj] = x at *
                        obtain ⟨xa, xb, xc, xd⟩ := x
                        simp only at r0 r1 r2 r3 hd he1
                        have gd : decide (xa ≤ (e : Int)) = false := decide_eq_false hd
                        have ge : (xa == (e : Int) + 1) = false := by rw [beq_eq_false_iff_ne]; exact he1
                        go_wp2_with fail
                        go_roundw
                        case rel => exact ⟨jj + 1, by go_num, by omega, by rw [HCS.out], hb2.alloc hs2 _⟩
                        case measure => simp [intOf]; omega
                  · obtain rfl : jj = m := by omega
                    rw [HCM.out]
                    have kl2 : ¬ (jj : Int) < (L.length : Int) := by omega
                    go_wp2_with fail
                    go_meet
                    exact ⟨rfl, hb2⟩
            case rest =>
              obtain ⟨rfl, hbv⟩ := hcut
              obtain ⟨wv, rfl⟩ : ∃ z, z = wc := ⟨_, rfl⟩
              have HYV := Lib.hid (HYZ.out.after hbv)
              have HXV := Lib.hid (HXZ.out.after hbv)
              have HWV := Lib.hid (HWZ.out.after hbv)
              have HMV : Hid (CMap wv w7.heap.size nn (numbersL xs) (sumL E)) := Lib.hid (KMap.after HMZ.out hbv)
              have hvv : Below w7.heap.size w7 wv := hvz.trans (hbv.mono hvz.size)
              clear HYZ HXZ HWZ HMZ HIZ HRZ hvz hbv HC0 HCM HDP HST HYS HNO
              have y3 := HYV.out.cell 3
              have yz := HYV.out.lt
              have kne : ((il.length : Int) != (il.length : Int)) = false := by simp
              by_cases hi0 : il = []
              · subst hi0
                have q0 := HXV.out.cell 0
                have q1 := HXV.out.cell 1
                have qz := HXV.out.lt
                have s0 : wv.cell? ⟨w7.heap.size + 1, e, none⟩ = some (.int .i64 (stepW Wp ((e : Int), z, lt, cc) (e : Int))) := HWV.out.cell he6b
                have HE3 : Hid (endsF (endI xs q) (fun _ => 0) (T.take (ii + 1)) = E ++ [(z, stepW Wp ((e : Int), z, lt, cc) (e : Int))]) := Lib.hid (by rw [HE1.out, if_pos (by rw [HEI.out]; rfl)])
                have hpos : 0 < stepW Wp ((e : Int), z, lt, cc) (e : Int) := HB2.out.2 (z, stepW Wp ((e : Int), z, lt, cc) (e : Int)) (by rw [HE3.out]; exact List.mem_append_right _ (List.mem_singleton.2 rfl))
                have hsum := HB2.out.1 z
                rw [HE3.out, sumL_app, sumL_one, if_pos rfl] at hsum
                generalize hpv : stepW Wp ((e : Int), z, lt, cc) (e : Int) = pv at *
                have hb1z := HB1.out z
                have hnz := HNB.out z HZ.out
                have hNz : NIn z := by unfold NIn; omega
                have hMd : CMap wv.drew w7.heap.size nn (numbersL xs) (sumL E) := HMV.out
                have hlk := (KMap.imap hMd).look hNz
                obtain ⟨sv, hsv⟩ : ∃ sv, sumL E z = sv := ⟨_, rfl⟩
                rw [hsv] at hlk hsum hb1z
                have hNv : NIn (sv + pv) := by unfold NIn; omega
                obtain ⟨w9, hrun, hm9, ht9⟩ := CMap.add hMd (by omega) HPS.out HZ.out hNz hNv (by omega)
                have hb9 : Below w7.heap.size w7 w9 := turned_below ht9 (Nat.le_refl _) w7 hvv.drew (hvv.drew.size)
                have HM9 : Hid (CMap w9 w7.heap.size (nn + 1) (numbersL xs) (sumL (endsF (endI xs q) (fun _ => 0) (T.take (ii + 1))))) := Lib.hid (by
                  have h5 : (fun y => if y = z then sv + pv else sumL E y) = sumL (endsF (endI xs q) (fun _ => 0) (T.take (ii + 1))) := by
                    funext y
                    rw [HE3.out, sumL_app, sumL_one]
                    by_cases e2 : y = z
                    · subst e2; rw [if_pos rfl, if_pos rfl, hsv]
                    · rw [if_neg e2, if_neg (fun e3 => e2 e3.symm)]; omega
                  rw [h5] at hm9
                  exact hm9)
                have HW9 : Hid (WAt w9 (w7.heap.size + 1) ((T.take (ii + 1)).foldl stepW (fun _ => 0))) := Lib.hid (by
                  rw [HE2.out]
                  exact WAt.turned (WAt.after HWV.out ((Below.refl _ _).drew)) hMd ht9)
                have q0d : w9.cell? ⟨gx, 0, none⟩ = some (.int .i64 (e : Int)) := (cell_turned ht9 (cell_nomap hMd q0)).trans q0
                have q1d : w9.cell? ⟨gx, 1, none⟩ = some (.int .i64 z) := (cell_turned ht9 (cell_nomap hMd q1)).trans q1
                have s0d : w9.cell? ⟨w7.heap.size + 1, e, none⟩ = some (.int .i64 pv) := (cell_turned ht9 (cell_nomap hMd s0)).trans s0
                have kw5 : IntKind.i64.wrap (sv + pv) = sv + pv := IntWalk.i64_in _ (by omega)
                have ke6 : (e : Int) < 6 := by omega
                clear hm9 ht9 hMd hsv hNv hNz hpv HE1 HE2 HE3 HB1 HB2
                go_upto_region 38 with fail
                refine wp_region_held_drew (S := fun W => W.cell? ⟨gx, 0, none⟩ = some (.int .i64 (e : Int)) ∧ W.cell? ⟨gx, 1, none⟩ = some (.int .i64 z) ∧ W.cell? ⟨w7.heap.size + 1, e, none⟩ = some (.int .i64 pv)) (by kernel_rfl) ⟨q0, q1, s0⟩ (fun hHeld => ?_)
                refine take_z 0 ?_
                refine take_z 1 ?_
                refine take_z 2 ?_
                refine take_z 4 ?_
                refine take_z 5 ?_
                refine take_z 6 ?_
                refine take_z 7 ?_
                refine wpAnyH_ready (rs := [3]) (by kernel_rfl) (by simp) ?_
                refine cons_at rfl (fun K hK => ?_) AllReadyH.nil
                go_simp
                refine hK.out _ _ ?_ (fun hHeld => ?_)
                · exact ⟨q0, q1, s0⟩
                clear hK K
                try simp only [Act.put, List.setIfInBounds_toArray, List.set_cons_zero, List.set_cons_succ]
                refine take_z 8 ?_
                refine wpAnyH_ready (rs := [9]) (by kernel_rfl) (by simp) ?_
                refine cons_at rfl (fun K hK => ?_) AllReadyH.nil
                go_simp
                refine hK.out _ _ ?_ (fun hHeld => ?_)
                · exact ⟨q0d, q1d, s0d⟩
                clear hK K
                try simp only [Act.put, List.setIfInBounds_toArray, List.set_cons_zero, List.set_cons_succ]
                refine wpAnyH_done (by kernel_rfl) ?_ _
                go_wp2_with fail
                go_roundw
                case rel => exact ⟨ii + 1, nn + 1, by go_num, by omega, by omega, HM9, HW9, hb9⟩
                case measure => simp [intOf]; omega
              · have hln : 0 < il.length := List.length_pos_iff.2 hi0
                have hlz : ((il.length : Int) == 0) = false := by rw [beq_eq_false_iff_ne]; omega
                have HM9 : Hid (CMap wv w7.heap.size nn (numbersL xs) (sumL (endsF (endI xs q) (fun _ => 0) (T.take (ii + 1))))) := Lib.hid (by
                  rw [HE1.out, if_neg (by rw [HEI.out]; simpa using hi0), List.append_nil]
                  exact HMV.out)
                have HW9 : Hid (WAt wv (w7.heap.size + 1) ((T.take (ii + 1)).foldl stepW (fun _ => 0))) := Lib.hid (by
                  rw [HE2.out]
                  exact HWV.out)
                clear hi0 HE1 HE2
                go_wp2_with fail
                go_roundw
                case rel => exact ⟨ii + 1, nn, by go_num, by omega, by omega, HM9, HW9, hvv⟩
                case measure => simp [intOf]; omega
      · obtain rfl : ii = T.length := by omega
        have kl1 : ¬ (T.length : Int) < (T.length : Int) := by omega
        have HMF : Hid (CMap wr w7.heap.size nn (numbersL xs) (cntP xs q d)) := Lib.hid (by
          have h5 : sumL (endsF (endI xs q) (fun _ => 0) (T.take T.length)) = cntP xs q d := by
            funext y
            rw [List.take_length, HTE.out]
            rfl
          have := HM.out
          rw [h5] at this
          exact this)
        have hln := KMap.len HMF.out 3
        rw [HPLM.out] at hln
        have hT0b : ((T.length : Int) == 0) = false := by rw [beq_eq_false_iff_ne]; omega
        have hnl2 : ((pl.length : Int) != (pl.length : Int)) = false := by simp
        obtain ⟨A', c', bP, oP, eP, hAP, hcP⟩ := PA_7.out
        injection eP with e1 e2 e3
        subst e1 e3
        have HAP := Lib.hid hAP
        have HCP := Lib.hid hcP
        have hbz := hb
        obtain ⟨wz, rfl⟩ : ∃ z, z = wr := ⟨_, rfl⟩
        clear hAP hcP HM HW hb HBS
        go_wp2_with fail
        go_loopw [256] (fun i ws => ∃ kk : Nat, i = .int .i64 kk ∧ kk ≤ pl.length ∧ Below wz.heap.size wz ws) (fun i _ => pl.length - (intOf i).toNat)
        case atStart => exact ⟨0, rfl, by omega, by exact BeL⟩
        case round =>
          obtain ⟨i, rfl, hi, hb2⟩ := hrel
          have hvx : Below w7.heap.size w7 wr := hbz.trans (hb2.mono hbz.size)
          by_cases hit : i < pl.length
          · have kl2 : (i : Int) < (pl.length : Int) := by omega
            obtain rfl := HAP.out (by omega)
            have j0 := cell_keep hvx (HCP.out i hit).1
            have j1 := cell_keep hvx (HCP.out i hit).2
            have hprev : 0 < i → ∃ pb : Int × Int, wr.cell? ⟨bP, oP + (i - 1) * 2, none⟩ = some (.int .i64 pb.1) ∧ pb.1 < (pl[i]).1 := fun h0 =>
              ⟨pl[i - 1]'(by omega), cell_keep hvx (HCP.out (i - 1) (by omega)).1, List.pairwise_iff_getElem.1 HPO.out (i - 1) i (by omega) hit (by omega)⟩
            have HPR2 := Lib.hid hprev
            obtain ⟨hp1, hp2⟩ := HPM.out _ (List.getElem_mem hit)
            have hnz := HNB.out _ hp1
            clear hprev hp1
            generalize pl[i] = pz at *
            obtain ⟨za, zc⟩ := pz
            simp only at j0 j1 hp2 hnz HPR2
            have hNz : NIn za := by unfold NIn; omega
            have HMW : Hid (CMap (wr.alloc (.cells #[.int .i64 za, .int .i64 zc] 52)) w7.heap.size nn (numbersL xs) (cntP xs q d)) := Lib.hid (KMap.alloc (KMap.after HMF.out hb2) (.cells #[.int .i64 za, .int .i64 zc] 52))
            have hlk := look_drewN HMW.out hNz
            rw [hp2] at hlk
            have LC := Lib.hid (Lies.made wr 52 #[.int .i64 za, .int .i64 zc])
            have hs2 := hb2.size
            have hw2 : Below wz.heap.size wz (wr.alloc (.cells #[.int .i64 za, .int .i64 zc] 52)) := hb2.alloc hs2 _
            by_cases h0 : i = 0
            · have ki4 : ¬ (0 : Int) < (i : Int) := by omega
              have ki6 : ¬ 0 < i := by omega
              have gi4 : decide ((0 : Int) < (i : Int)) = false := decide_eq_false ki4
              have gi6 : decide (0 < i) = false := decide_eq_false ki6
              clear HPR2 h0
              go_upto_region 45 with fail
              have c0 := LC.out.cell 0
              have c1 := LC.out.cell 1
              generalize hwq : wr.alloc (.cells #[.int .i64 za, .int .i64 zc] 52) = wq at *
              refine wp_region_held_drew (S := fun W => ∃ nn : Nat, W = wq.drewN nn) (by kernel_rfl) ⟨1, rfl⟩ (fun hHeld => ?_)
              refine take_z 0 ?_
              refine take_z 1 ?_
              refine take_z 2 ?_
              refine take_z 3 ?_
              refine take_z 4 ?_
              refine take_z 5 ?_
              refine take_z 6 ?_
              refine take_z 7 ?_
              refine take_z 8 ?_
              refine take_z 9 ?_
              refine take_z 10 ?_
              refine skip_z 11 ?_
              refine skip_z 12 ?_
              refine skip_z 13 ?_
              refine skip_z 14 ?_
              refine skip_z 15 ?_
              refine skip_z 16 ?_
              refine skip_z 17 ?_
              refine skip_z 18 ?_
              refine skip_z 19 ?_
              refine take_z 20 ?_
              refine take_z 21 ?_
              refine wpAnyH_done (by kernel_rfl) ?_ _
              go_wp2_with fail
              go_roundw
              case rel => exact ⟨i + 1, by go_num, by omega, hw2.drew⟩
              case measure => simp [intOf]; omega
            · obtain ⟨pb, pc, hlt2⟩ := HPR2.out (by omega)
              obtain ⟨jp, hjp⟩ : ∃ j, j = i - 1 := ⟨_, rfl⟩
              rw [← hjp] at pc
              have ki1 : IntKind.i64.wrap ((i : Int) - 1) = (jp : Int) := by rw [IntWalk.i64_in _ (by omega)]; omega
              have ki2 : IntKind.i64.wrap (jp : Int) = (jp : Int) := IntWalk.i64_in _ (by omega)
              have ki3 : (jp : Int) < (pl.length : Int) := by omega
              have ki4 : (0 : Int) < (i : Int) := by omega
              have ki6 : 0 < i := by omega
              have gi4 : decide ((0 : Int) < (i : Int)) = true := decide_eq_true ki4
              have gi6 : decide (0 < i) = true := decide_eq_true ki6
              have ki5 : ¬ za ≤ pb.1 := by omega
              have gi5 : decide (za ≤ pb.1) = false := decide_eq_false ki5
              have pc := keep_nw (o := .cells #[.int .i64 za, .int .i64 zc] 52) pc
              clear HPR2 h0 hjp
              go_upto_region 45 with fail
              have c0 := LC.out.cell 0
              have c1 := LC.out.cell 1
              generalize hwq : wr.alloc (.cells #[.int .i64 za, .int .i64 zc] 52) = wq at *
              refine wp_region_held_drew (S := fun W => ∃ nn : Nat, W = wq.drewN nn) (by kernel_rfl) ⟨1, rfl⟩ (fun hHeld => ?_)
              refine take_z 0 ?_
              refine take_z 1 ?_
              refine take_z 2 ?_
              refine take_z 3 ?_
              refine take_z 4 ?_
              refine take_z 5 ?_
              refine take_z 6 ?_
              refine take_z 7 ?_
              refine take_z 8 ?_
              refine take_z 9 ?_
              refine take_z 10 ?_
              refine take_z 11 ?_
              refine take_z 12 ?_
              refine take_z 13 ?_
              refine take_z 14 ?_
              refine take_z 15 ?_
              refine take_z 16 ?_
              refine take_z 17 ?_
              refine take_z 18 ?_
              refine take_z 19 ?_
              refine take_z 20 ?_
              refine take_z 21 ?_
              refine wpAnyH_done (by kernel_rfl) ?_ _
              go_wp2_with fail
              go_roundw
              case rel => exact ⟨i + 1, by go_num, by omega, hw2.drew⟩
              case measure => simp [intOf]; omega
          · have kl2 : ¬ (i : Int) < (pl.length : Int) := by omega
            go_wp2_with fail
            go_ret
            exact ⟨rfl, hb7.trans (hvx.mono hb7.size)⟩
  · obtain ⟨rfl, rfl⟩ : T = [] ∧ tq = 4 := by
      rcases HTW.out with h | h
      · exact absurd h htq
      · injection h with h1 h2; exact ⟨h1, h2⟩
    go_wp2_with fail
    go_ret
    exact ⟨rfl, hb6⟩
end Go.Proofs.Ytkjfceajakhlfaa
