/- The law SizeNever: the walk. -/
import Derived.Test.YtldjkdomklgmaaaDoorF2
import Derived.Test.YtldjkdomklgmaaaDoorW0
import Derived.Test.YtldjkdomklgmaaaDoorC1
import Derived.Deep.RegionHeld3
import Derived.Deep.AppendLies
import Derived.Maps.AppendAt
import Derived.Deep.DeepCutAuto
import Derived.Deep.CutRange
namespace Go.Proofs.YtldjkdomklgmaaaDoor
set_option linter.unusedVariables false
set_option linter.unusedSimpArgs false
open Go.RowKit

theorem info_u8 : (Tryd.prog.info? 5).map (fun i => (i.zero, i.size, i.bytes)) = some (some (.int .u8 0), 1, 1) := by kernel_rfl
/-- The units of the first numbers. -/
def unitsOf (bs : List Int) (k : Nat) : List Int := (bs.take k).map unitOf
theorem unitsOf_snoc {bs : List Int} {k : Nat} (h : k < bs.length) : unitsOf bs (k + 1) = unitsOf bs k ++ [unitOf bs[k]] := by
  unfold unitsOf; rw [List.take_succ_eq_append_getElem h, List.map_append]; rfl
theorem unitsOf_ok (bs : List Int) (k : Nat) : ∀ x ∈ unitsOf bs k, x = 1 ∨ x = 2 := by
  intro x hx
  obtain ⟨b, -, rfl⟩ := List.mem_map.1 hx
  exact unitOf_or b
theorem unitsOf_len {bs : List Int} {k : Nat} (h : k ≤ bs.length) : (unitsOf bs k).length = k := by simp [unitsOf]; omega
theorem own_units {W : World} {base n g cap : Nat} {us : List Int} (hn : us.length = n) (ho : W.ownsRow base 5 1 (.slice (some ⟨g, 0, none⟩) n cap) n (us.map (.int .u8))) : cellsU W g 0 us := fun i hi => by
  obtain ⟨A, c, g', hv, hc⟩ := own_form ho
  obtain ⟨hA, cur, hL, hcur⟩ := hc (by omega)
  rw [hA] at hv
  simp only [Value.slice.injEq, Option.some.injEq, Addr.mk.injEq, and_true, true_and] at hv
  obtain ⟨rfl, -⟩ := hv
  have e := hL.cell i
  rw [hcur _ (by omega)] at e
  rw [Nat.zero_add]
  refine e.trans ?_
  simp [hi]

theorem lies_grown {W W' : World} {base : Nat} {e : TypeId} {size n : Nat} {v : Value} {xs : List Value} {g : Nat} {t : TypeId} {cs : Array Value} (ho : W.ownsRow base e size v n xs) (hl : Lies W g t cs) (hne : e ≠ t) (hg : W.grownBy W' v.ownBlock) : Lies W' g t cs :=
  (hg.block g hl.lt (fun h => own_ne ho hl hne h.symm)).trans hl
theorem own_store {W : World} {base : Nat} {e : TypeId} {size n : Nat} {v : Value} {xs : List Value} {g : Nat} {t : TypeId} {cs : Array Value} (ho : W.ownsRow base e size v n xs) (hl : Lies W g t cs) (hne : e ≠ t) (i : Nat) (u : Value) : (W.setCell ⟨g, i, none⟩ u).ownsRow base e size v n xs :=
  ho.kept (row := some g) ⟨rfl, rfl, rfl, by simp, fun k _ hk => Below.heap_setCell W ⟨g, i, none⟩ u k (fun h => hk (by rw [h]))⟩ (.inr (own_ne ho hl hne))

theorem mid_alloc (w0 w : World) (hb : Below w0.heap.size w0 w) (cs : Array Value) (t : TypeId) : ∃ W, w.alloc (.cells cs t) = W ∧ Below w0.heap.size w0 W ∧ (∀ g t' cs', Lies w g t' cs' → Lies W g t' cs') ∧ Lies W w.heap.size t cs ∧ W.heap.size = w.heap.size + 1 :=
  ⟨_, rfl, hb.alloc hb.size _, fun _ _ _ h => h.alloc _, Lies.made _ _ _, by simp⟩
theorem step_app {ops : Array Oper} {o : Oper} {a : Act} {W : World} {K : Act → World → Prop} {Q : Exit → Act → World → Prop} {E : Prop} (hgd : o.guard = none) (s x : Operand)
    (ho : o.op = .call { callee := .builtin .append, args := #[s, x], argTypes := #[42, 42] })
    (base : Nat) {i : TypeInfo} (hi : Tryd.prog.info? 5 = some i) (hz : i.zero = some (.int .u8 0)) (hsize : i.size = 1) (hby : i.bytes = 1)
    (v : Value) (n : Nat) (xs : List Value) (hs : a.eval s = v) (hown : W.ownsRow base 5 1 v n xs) (ad : Addr) (m c : Nat) (news : List Value) (hx : a.eval x = .slice (some ad) m c) (hl : news.length = m)
    (hnews : ∀ j u, news[j]? = some u → W.cell? (ad.add j) = some u) (h1 : ∀ u ∈ news, u.oneCell' = true) (hn : 0 < n + m) (hle : n + m ≤ 100) (hbase : base ≤ W.heap.size)
    (h : ∀ g cap w', w'.ownsRow base 5 1 (.slice (some ⟨g, 0, none⟩) (n + m) cap) (n + m) (xs ++ news) → W.grownBy w' v.ownBlock → g < w'.heap.size → K (a.put o.dst (.slice (some ⟨g, 0, none⟩) (n + m) cap)) w') :
    if Region.wanted o (yielded ops a.tmps) = true then Oper.wp Tryd.prog o a W K Q else E := by
  rw [if_pos (show Region.wanted o (yielded ops a.tmps) = true by simp [Region.wanted, hgd])]
  obtain ⟨v', w', hr, h2, h3, -, -⟩ := run_append_own_at (P := Tryd.prog) W base 42 o.type 5 i (.int .u8 0) 1 1 Tryd.underlying42 hi hz hsize hby rfl (by decide) v n xs hown ad m c news (by rw [hl, Nat.mul_one]) hnews h1 (by unfold maxLen; omega) (by omega) hbase
  obtain ⟨g, cap, rfl, -, hlt⟩ := h2.form hn
  unfold Oper.wp execOp
  simp only [ho, resolve, invoke, builtin, Sem.run_bind, Sem.run_pure, Result.andThen_ok, List.map_toArray, List.map_cons, List.map_nil, hs, hx, hr]
  exact h g cap w' h2 h3 hlt
theorem own_emptyU (u : World) (base k : Nat) (hk : k = u.heap.size) (hb : base ≤ k) : (u.alloc (.cells #[] 5)).ownsRow base 5 1 (.slice (some ⟨k, 0, none⟩) 0 0) 0 [] := by
  subst hk
  exact World.ownsRow_made (base := base) (e := 5) (size := 1) u #[] 0 hb (by decide) rfl
theorem news_units {v W : World} {g : Nat} {us : List Int} (hb : Below v.heap.size v W) (hc : cellsU v g 0 us) (hg : g < v.heap.size) (m : Nat) : ∀ j u, ((us.take m).map (Value.int .u8))[j]? = some u → W.cell? ((⟨g, 0, none⟩ : Addr).add j) = some u := by
  intro j u hj
  rw [List.getElem?_map] at hj
  obtain ⟨x, hx, rfl⟩ := Option.map_eq_some_iff.1 hj
  have hjl : j < us.length := by
    have := (List.getElem?_eq_some_iff.1 hx).1
    simp at this; omega
  rw [List.getElem?_take] at hx
  split at hx
  · rw [List.getElem?_eq_getElem hjl] at hx
    injection hx with hx
    subst hx
    have ha : (⟨g, 0, none⟩ : Addr).add j = ⟨g, 0 + j, none⟩ := by unfold Addr.add; split <;> simp_all
    rw [ha]
    exact (hb.cell (p := ⟨g, 0 + j, none⟩) hg).trans (hc j hjl)
  · cases hx
theorem lies3 {W : World} {g : Nat} {x y z : Int} (L : Lies W g 28 #[.int .i64 x, .int .i64 y, .int .i64 z]) : W.cell? ⟨g, 0, none⟩ = some (.int .i64 x) ∧ W.cell? ⟨g, 1, none⟩ = some (.int .i64 y) ∧ W.cell? ⟨g, 2, none⟩ = some (.int .i64 z) := ⟨L.cell 0, L.cell 1, L.cell 2⟩

set_option maxHeartbeats 40000000 in
set_option maxRecDepth 100000 in
theorem never_go (b off : Nat) (bs : List Int) (c : Nat) (n l u : Int) (w : World) (he : Env w) (hl : bs.length ≤ 20) (hc : cellsU w b off bs) (hbb : 0 < bs.length → b < w.heap.size) (hw : ∀ x ∈ bs, 0 ≤ x ∧ x ≤ 255) (h : okD n l u = true) (A : Option Addr) (hA : 0 < bs.length → A = some ⟨b, off, none⟩) :
    Calls Tryd.prog 6 #[.agg #[.int .i64 n, .int .i64 l, .int .i64 u], .slice A bs.length c] w (Trues w) := by
  have hlen : ((bs.length : Nat) : Int) ≤ 20 := by omega
  have hlen' : decide ((20 : Int) < (bs.length : Int)) = false := decide_eq_false (by omega)
  have HE := Lib.hid (fun W (hW : Below w.heap.size w W) => he.after hW)
  have HD := Lib.hid (fun W => h ▸ rDim_any n l u W)
  have HC := Lib.hid hc
  have HW := Lib.hid hw
  have HOK := Lib.hid h
  have HAA := Lib.hid hA
  have HBB := Lib.hid hbb
  obtain ⟨i0, hi, hz0, hz1, hz2⟩ := info_parts info_u8
  obtain ⟨v1, v2, v3, v4, v5⟩ := okD_iff.1 h
  clear he hc hw h hA hbb
  go_enter Tryd.func6, Tryd.ntmps6
  go_wp2_with fail
  refine (alive_any _ (HE.out _ (by (repeat' (first | (with_reducible exact Below.refl _ _) | (with_reducible assumption) | (with_reducible refine Below.alloc ?_ ?_ _) | (with_reducible refine Below.setCell ?_ ?_ _) | (with_reducible refine below_row ?_ ?_ _) | (with_reducible refine Below.drew ?_) | (with_reducible refine below_drewN ?_ _) | (with_reducible refine Below.trans ?_ (Below.mono (by assumption) ?_)) | (first | exact Nat.le_refl _ | omega | (simp; done) | (simp; omega))))))).mono ?_
  rintro _ w1 ⟨rfl, hb1⟩
  have s1 := hb1.size; try simp only [World.size_alloc, World.size_setCell, World.size_drew, setRow_size] at s1
  have HP1 := Lib.hid ((Lies.made w 28 #[.int .i64 n, .int .i64 l, .int .i64 u]).after hb1)
  have q0 := HP1.out.cell 0
  have q1 := HP1.out.cell 1
  have q2 := HP1.out.cell 2
  have z1 := HP1.out.lt
  have B1 : Below w.heap.size w w1 := by (repeat' (first | (with_reducible exact Below.refl _ _) | (with_reducible assumption) | (with_reducible refine Below.alloc ?_ ?_ _) | (with_reducible refine Below.setCell ?_ ?_ _) | (with_reducible refine below_row ?_ ?_ _) | (with_reducible refine Below.drew ?_) | (with_reducible refine below_drewN ?_ _) | (with_reducible refine Below.trans ?_ (Below.mono (by assumption) ?_)) | (first | exact Nat.le_refl _ | omega | (simp; done) | (simp; omega))))
  go_wp2_with fail
  refine (HD.out _).mono ?_
  rintro _ w2 ⟨rfl, hb2⟩
  have s2 := hb2.size; try simp only [World.size_alloc, World.size_setCell, World.size_drew, setRow_size] at s2
  have HP2 := Lib.hid (HP1.out.after hb2)
  have B2 : Below w.heap.size w w2 := B1.trans (hb2.mono B1.size)
  clear q0 q1 q2 z1 HP1 B1 hb1 hb2
  have q0 := HP2.out.cell 0
  have q1 := HP2.out.cell 1
  have q2 := HP2.out.cell 2
  have z2 := HP2.out.lt
  go_wp2_with fail
  go_region
  obtain ⟨wn, hwn⟩ : ∃ W, (w2.alloc (.cells #[.int .i64 n, .int .i64 l, .int .i64 u] 28)).drew = W := ⟨_, rfl⟩
  rw [hwn]
  have HPn := Lib.hid (show Lies wn w.heap.size 28 #[.int .i64 n, .int .i64 l, .int .i64 u] from by subst hwn; exact (HP2.out.alloc _).drew)
  have HNn := Lib.hid (show Lies wn w2.heap.size 28 #[.int .i64 n, .int .i64 l, .int .i64 u] from by subst hwn; exact (Lies.made _ _ _).drew)
  have Bn : Below w.heap.size w wn := by subst hwn; exact (B2.alloc B2.size _).drew
  have hPN : w.heap.size < w2.heap.size := z2
  clear hwn q0 q1 q2 z2 HP2 B2
  go_wp2_with fail
  go_loopw [6, 7, 44] (fun v sm i wr => ∃ (k : Nat) (sum a b' c' : Int), k ≤ bs.length ∧ i = .int .i64 k ∧ sm = .int .i64 sum ∧ wr.ownsRow (w.heap.size + 1) 5 1 v k ((unitsOf bs k).map (.int .u8)) ∧ Hid (foldD (unitsOf bs k) (n, l, u) = some (a, b', c')) ∧ Hid (okD a b' c' = true) ∧ Hid (l ≤ b' ∧ c' ≤ u ∧ b' - l ≤ sum ∧ u - c' ≤ sum) ∧ 0 ≤ sum ∧ sum ≤ 254 * k ∧ Hid (Lies wr w.heap.size 28 #[.int .i64 n, .int .i64 l, .int .i64 u]) ∧ Hid (Lies wr w2.heap.size 28 #[.int .i64 a, .int .i64 b', .int .i64 c']) ∧ Below w.heap.size w wr) (fun _ _ i _ => bs.length - (intOf i).toNat)
  case atStart => exact ⟨0, 0, n, l, u, by omega, rfl, rfl, World.ownsRow_nil _ _ _ _, Lib.hid rfl, HOK, Lib.hid (by omega), by omega, by omega, HPn, HNn, Bn⟩
  case round =>
    clear HPn HNn Bn
    obtain ⟨k, sum, a, b', c', hk, rfl, rfl, hown, HF, HO, HI, s0, s1', HP, HN, BR⟩ := hrel
    have HOW := Lib.hid hown
    have sR := BR.size
    clear hown
    by_cases hlt : k < bs.length
    · obtain rfl := HAA.out (by omega)
      have qb := (BR.cell (p := ⟨b, off + k, none⟩) (HBB.out (by omega))).trans (HC.out k hlt)
      have hsn := unitsOf_snoc hlt
      have hbw := HW.out bs[k] (List.getElem_mem hlt)
      generalize bs[k] = bk at *
      obtain ⟨y0, y1⟩ := hbw
      have HSN := Lib.hid hsn
      have HS := Lib.hid (fun W => step_b bk W y0 y1)
      clear hsn
      have hul := unitsOf_len (bs := bs) (k := k) (by omega)
      have hrd := never_round (us := unitsOf bs k) (un := unitOf bk) (st := stepOf bk) (sum := sum) (by unfold unitOf stepOf; split <;> simp) HOK.out (by omega) (unitsOf_ok bs k) HF.out HO.out HI.out.1 HI.out.2.1 HI.out.2.2.1 HI.out.2.2.2
      have HRD := Lib.hid hrd
      clear hrd
      rcases unitOf_or bk with hu | hu
      · have hst : stepOf bk = 100 := by unfold unitOf at hu; unfold stepOf; split at hu <;> simp_all
        rw [hu, hst] at HS HRD
        rw [hu] at HSN
        clear hu hst
        go_wp2_with fail
        refine (HS.out _).mono ?_
        rintro _ w3 ⟨rfl, hb3⟩
        have s3 := hb3.size; try simp only [World.size_alloc, World.size_setCell, World.size_drew, setRow_size] at s3
        have B3 : Below w.heap.size w w3 := BR.trans (hb3.mono sR)
        have HW3 := Lib.hid (own_after HOW.out hb3)
        have HP3 := Lib.hid (HP.out.after hb3)
        have HN3 := Lib.hid (HN.out.after hb3)
        have sP3 := HP3.out.lt
        have s3' := B3.size
        clear hb3 qb HOW HP HN BR HS
        go_wp2_with (at_builtin; refine wpList_append_own _ rfl _ _ 42 rfl (w.heap.size + 1) 5 i0 (.int .u8 0) 1 1 Tryd.underlying42 hi hz0 hz1 hz2 rfl (by decide) _ _ _ rfl (HW3.out.alloc _) ⟨w3.heap.size, 0, none⟩ 1 1 [.int .u8 1] rfl rfl (World.news_of_block (cs := #[.int .u8 1]) (t := 5) (fr := (0, 0)) (Lies.new (by simp))) (by simp [Value.oneCell']) (by unfold maxLen; omega) (by omega) (by simp; omega) ?_; intro v' w4 hown4 hgrow4 _; have HN4 := Lib.hid (lies_grown (HW3.out.alloc (.cells #[.int .u8 1] 5)) (HN3.out.alloc _) (by decide) hgrow4); have qn0 := HN4.out.cell 0; have qn1 := HN4.out.cell 1; have qn2 := HN4.out.cell 2; have zn := HN4.out.lt)
        clear qn0 qn1 qn2 zn
        have HP4 := Lib.hid ((HP3.out.alloc (.cells #[.int .u8 1] 5)).turned hgrow4 (base := w.heap.size + 1) (by omega) (fun r e => (HW3.out.lt r e).1))
        have B4 : Below w.heap.size w w4 := Below.grown (B3.alloc s3' _) hgrow4 (by simp; omega) (fun r e => Nat.le_trans (by omega) (HW3.out.lt r e).1)
        obtain ⟨g, cap, rfl, -, hg4⟩ := hown4.form (by omega)
        have HO4 := Lib.hid (show w4.ownsRow (w.heap.size + 1) 5 1 (.slice (some ⟨g, 0, none⟩) (k + 1) cap) (k + 1) ((unitsOf bs (k + 1)).map (.int .u8)) from by rw [HSN.out, List.map_append]; exact hown4)
        clear hown4 hgrow4 HW3 HP3 HN3 B3 s3 s3' sP3
        obtain ⟨w50, rfl⟩ : ∃ v : World, v = w4 := ⟨_, rfl⟩
        have HP_50 := Lib.hid HP4.out
        have HN_50 := Lib.hid HN4.out
        have A50 := B4
        have sP50 := A50.size
        clear HP4 HN4 B4
        have hul' := unitsOf_len (bs := bs) (k := k + 1) (by omega)
        rcases HRD.out with ⟨hv, hf⟩ | ⟨x, y, z, hv, hf, ok2, hex, hcc, hsame, g1, g2, g3, g4, g5⟩
        · as_aux_lemma =>
          have HV := Lib.hid (fun W => hv ▸ Convert_any 1 a b' c' W)
          rw [← HSN.out] at hf
          have hrr : redrawS (unitsOf bs (k + 1)) n l u = ((0, 0, 0), 6) := by rw [redraw_fold HOK.out (by omega) (unitsOf_ok bs (k + 1)), hf]
          have HR : Hid (∀ W, Below w50.heap.size w50 W → Calls Tryd.prog 23 #[.agg #[.int .i64 n, .int .i64 l, .int .i64 u], .slice (some ⟨g, 0, none⟩) (k + 1) cap] W fun e w' => e = .returned (.tuple #[.agg #[.int .i64 0, .int .i64 0, .int .i64 0], .int .i64 6]) ∧ Below W.heap.size W w') := Lib.hid (fun W hW => by
            have h := Redraw_any (some ⟨g, 0, none⟩) g 0 (unitsOf bs (k + 1)) cap n l u W (fun _ => rfl) (own_units hul' (own_after HO4.out hW))
            rw [hrr, hul'] at h
            exact h)
          obtain ⟨mm, hmm⟩ : ∃ mm : Nat, min (k : Int) (20 - ((k : Int) + 1)) = (mm : Int) := Int.eq_ofNat_of_zero_le (by rw [Int.min_def]; split <;> omega)
          have hmk : mm ≤ k ∧ k + 1 + mm ≤ 20 := by rw [Int.min_def] at hmm; split at hmm <;> omega
          obtain ⟨hmk1, hmk2⟩ := hmk
          have htk : (unitsOf bs (k + 1)).take (k + 1) = unitsOf bs (k + 1) := List.take_of_length_le (by omega)
          have hul2 : (((unitsOf bs (k + 1)).take (k + 1)).map (Value.int .u8)).length = k + 1 := by rw [htk]; simpa using hul'
          have hul3 : (((unitsOf bs (k + 1)).take mm).map (Value.int .u8)).length = mm := by simp; omega
          have hul4 : (unitsOf bs (k + 1) ++ (unitsOf bs (k + 1)).take mm).length = k + 1 + mm := by simp; omega
          have hone : ∀ x ∈ ((unitsOf bs (k + 1)).take (k + 1)).map (Value.int .u8), x.oneCell' = true := by intro x hx; obtain ⟨_, -, rfl⟩ := List.mem_map.1 hx; rfl
          have hone2 : ∀ x ∈ ((unitsOf bs (k + 1)).take mm).map (Value.int .u8), x.oneCell' = true := by intro x hx; obtain ⟨_, -, rfl⟩ := List.mem_map.1 hx; rfl
          have hpos : 0 < 0 + (k + 1) := by omega
          have hpos2 : 0 < k + 1 + mm := by omega
          have hle1 : 0 + (k + 1) ≤ 100 := by omega
          have hle2 : k + 1 + mm ≤ 100 := by omega
          have hall := never_more (us := unitsOf bs (k + 1)) (vs := (unitsOf bs (k + 1)).take mm) HOK.out (by omega) (fun x hx => by
            rcases List.mem_append.1 hx with hx | hx
            · exact unitsOf_ok bs (k + 1) x hx
            · exact unitsOf_ok bs (k + 1) x (List.mem_of_mem_take hx)) hf
          have K3 : Hid (∀ (g cap : Nat) W, cellsU W g 0 (unitsOf bs (k + 1) ++ (unitsOf bs (k + 1)).take mm) → Calls Tryd.prog 23 #[.agg #[.int .i64 n, .int .i64 l, .int .i64 u], .slice (some ⟨g, 0, none⟩) (k + 1 + mm) cap] W fun e w' => e = .returned (.tuple #[.agg #[.int .i64 0, .int .i64 0, .int .i64 0], .int .i64 6]) ∧ Below W.heap.size W w') := Lib.hid (fun g cap W hcW => by
            have h := Redraw_any (some ⟨g, 0, none⟩) g 0 (unitsOf bs (k + 1) ++ (unitsOf bs (k + 1)).take mm) cap n l u W (fun _ => rfl) hcW
            rw [hall, hul4] at h
            exact h)
          have hcap : k + 1 ≤ cap := by
            rcases HO4.out.2 with ⟨h1, -⟩ | ⟨_, _, _, h1, _, _, h2, _⟩
            · cases h1
            · simp only [Value.slice.injEq] at h1; omega
          have HMM := Lib.hid hmm
          clear hv hf hrr hmm hall HRD
          refine (HV.out _).mono ?_
          rintro _ w51 ⟨rfl, hb51⟩
          have s51 := hb51.size; try simp only [World.size_alloc, World.size_setCell, World.size_drew, setRow_size] at s51
          have B51 : Below w50.heap.size w50 w51 := by (repeat' (first | (with_reducible exact Below.refl _ _) | (with_reducible assumption) | (with_reducible refine Below.alloc ?_ ?_ _) | (with_reducible refine Below.setCell ?_ ?_ _) | (with_reducible refine below_row ?_ ?_ _) | (with_reducible refine Below.drew ?_) | (with_reducible refine below_drewN ?_ _) | (with_reducible refine Below.trans ?_ (Below.mono (by assumption) ?_)) | (first | exact Nat.le_refl _ | omega | (simp; done) | (simp; omega))))
          have HP51 := Lib.hid (HP_50.out.after B51)
          have q0 := HP51.out.cell 0
          have q1 := HP51.out.cell 1
          have q2 := HP51.out.cell 2
          have z51 := HP51.out.lt
          go_wp2_with fail
          refine (HR.out _ (Below.trans B51 (Below.mono (B := w51.heap.size) (by (repeat' (first | (with_reducible exact Below.refl _ _) | (with_reducible assumption) | (with_reducible refine Below.alloc ?_ ?_ _) | (with_reducible refine Below.setCell ?_ ?_ _) | (with_reducible refine below_row ?_ ?_ _) | (with_reducible refine Below.drew ?_) | (with_reducible refine below_drewN ?_ _) | (with_reducible refine Below.trans ?_ (Below.mono (by assumption) ?_)) | (first | exact Nat.le_refl _ | omega | (simp; done) | (simp; omega))))) B51.size))).mono ?_
          rintro _ w52 ⟨rfl, hb52⟩
          have s52 := hb52.size; try simp only [World.size_alloc, World.size_setCell, World.size_drew, setRow_size] at s52
          have B52 : Below w50.heap.size w50 w52 := Below.trans B51 (Below.mono (B := w51.heap.size) (by (repeat' (first | (with_reducible exact Below.refl _ _) | (with_reducible assumption) | (with_reducible refine Below.alloc ?_ ?_ _) | (with_reducible refine Below.setCell ?_ ?_ _) | (with_reducible refine below_row ?_ ?_ _) | (with_reducible refine Below.drew ?_) | (with_reducible refine below_drewN ?_ _) | (with_reducible refine Below.trans ?_ (Below.mono (by assumption) ?_)) | (first | exact Nat.le_refl _ | omega | (simp; done) | (simp; omega))))) B51.size)
          clear q0 q1 q2 z51 HP51 hb51 hb52 HV HR
          go_upto_region 17 with fail
          obtain ⟨v, hv, hBv, -, -, -⟩ := mid_alloc w50 w52 B52 #[.int .i64 0, .int .i64 0, .int .i64 0] 28
          rw [hv]
          have HPv := Lib.hid (HP_50.out.after hBv)
          have HUv := Lib.hid (own_units hul' (own_after HO4.out hBv))
          have sP : w.heap.size < v.heap.size := HPv.out.lt
          have s50 := hBv.size
          have hgv : g < v.heap.size := by omega
          have hmm := HMM.out
          have hwr1 : IntKind.i64.wrap (20 - ((k : Int) + 1)) = 20 - ((k : Int) + 1) := IntWalk.i64_in _ (by omega)
          have hwr2 : IntKind.i64.wrap (20 - ((k + 1 : Nat) : Int)) = 20 - ((k + 1 : Nat) : Int) := IntWalk.i64_in _ (by omega)
          have hmm2 : min (k : Int) (20 - ((k + 1 : Nat) : Int)) = (mm : Int) := by rw [Int.natCast_add]; exact hmm
          have hm0 : (0 : Int) ≤ (mm : Int) := by omega
          have hmc : (mm : Int) ≤ (cap : Int) := by omega
          have sP1 : w.heap.size < v.heap.size + 1 := by omega
          have nv0 : ¬ w.heap.size = v.heap.size := by omega
          have nw0 : ¬ v.heap.size = w.heap.size := by omega
          have nv1 : ¬ w.heap.size = v.heap.size + 1 := by omega
          have nw1 : ¬ v.heap.size + 1 = w.heap.size := by omega
          have p0 := HPv.out.cell 0
          have p1 := HPv.out.cell 1
          have p2 := HPv.out.cell 2
          have AV : Below w.heap.size w v := A50.trans (hBv.mono A50.size)
          have HAV := Lib.hid AV
          clear hv hBv HP_50 HO4 HN_50 AV A50 B51 B52 HMM
          go_cut [18] from 78 to 93 (fun s18 wx => s18 = .int .i64 6 ∧ Below v.heap.size v wx)
          case first =>
            go_region_held3 (fun W => W.cell? ⟨w.heap.size, 0, none⟩ = some (.int .i64 n) ∧ W.cell? ⟨w.heap.size, 1, none⟩ = some (.int .i64 l) ∧ W.cell? ⟨w.heap.size, 2, none⟩ = some (.int .i64 u)) (first | (refine lies3 (Lies.after HPv.out ?_); ((repeat' (first | (with_reducible exact Below.refl _ _) | (with_reducible assumption) | (with_reducible refine Below.alloc ?_ ?_ _) | (with_reducible refine Below.setCell ?_ ?_ _) | (with_reducible refine below_row ?_ ?_ _) | (with_reducible refine Below.drew ?_) | (with_reducible refine below_drewN ?_ _) | (with_reducible refine Below.trans ?_ (Below.mono (by assumption) ?_)) | (first | exact Nat.le_refl _ | omega | (simp; done) | (simp; omega))))); done) | go_keep) (first | (refine step_app (o := ⟨some 82, _, _, _, _, _⟩) (by rfl) (.tmp 80) (.tmp 81) (by rfl) v.heap.size hi hz0 hz1 hz2 (.slice (some ⟨_, 0, none⟩) 0 0) 0 [] (by rfl) ?_ ⟨g, 0, none⟩ (k + 1) cap (((unitsOf bs (k + 1)).take (k + 1)).map (.int .u8)) (by rfl) hul2 ?_ hone hpos hle1 ?_ ?_; (focus ((try with_reducible refine World.ownsRow.drew ?_); first | (refine own_emptyU _ _ _ ?_ ?_; (focus (simp; done)); (focus first | omega | (simp; done) | (simp; omega))) | (refine World.ownsRow.alloc (own_emptyU _ _ _ ?_ ?_) _; (focus (simp; done)); (focus first | omega | (simp; done) | (simp; omega))))); (focus (refine news_units ?_ HUv.out hgv (k + 1); (repeat' (first | (with_reducible exact Below.refl _ _) | (with_reducible assumption) | (with_reducible refine Below.alloc ?_ ?_ _) | (with_reducible refine Below.setCell ?_ ?_ _) | (with_reducible refine below_row ?_ ?_ _) | (with_reducible refine Below.drew ?_) | (with_reducible refine below_drewN ?_ _) | (with_reducible refine Below.trans ?_ (Below.mono (by assumption) ?_)) | (first | exact Nat.le_refl _ | omega | (simp; done) | (simp; omega)))))); (focus first | omega | (simp; done) | (simp; omega)); intro g1 cap1 w8 hown8 hgrow8 hlt8; simp only [Nat.zero_add, List.nil_append, htk] at hown8; rw [Nat.zero_add]; have B8 : Below v.heap.size v w8 := Below.grown (by (repeat' (first | (with_reducible exact Below.refl _ _) | (with_reducible assumption) | (with_reducible refine Below.alloc ?_ ?_ _) | (with_reducible refine Below.setCell ?_ ?_ _) | (with_reducible refine below_row ?_ ?_ _) | (with_reducible refine Below.drew ?_) | (with_reducible refine below_drewN ?_ _) | (with_reducible refine Below.trans ?_ (Below.mono (by assumption) ?_)) | (first | exact Nat.le_refl _ | omega | (simp; done) | (simp; omega))))) hgrow8 (by first | (simp; done) | (simp; omega)) (fun r e => by simp [Value.ownBlock] at e; omega); have s8 := B8.size; (try (refine (fun (LZ0 : Lies w8 (v.heap.size) 28 #[.int .i64 0, .int .i64 0, .int .i64 0]) => ?_) ((hgrow8.block (v.heap.size) ?_ ?_).trans (show Lies _ (v.heap.size) 28 #[.int .i64 0, .int .i64 0, .int .i64 0] from ?_)); rotate_left; (focus first | omega | (simp; done) | (simp; omega)); (focus first | (simp [Value.ownBlock]; done) | (simp [Value.ownBlock]; omega)); (focus first | (refine Lies.drew (Lies.new ?_); simp; done) | (refine Lies.drew (Lies.alloc (Lies.new ?_) _); simp; done) | (refine Lies.new ?_; simp; done) | (refine Lies.alloc (Lies.new ?_) _; simp; done)))); (try (refine (fun (LZ1 : Lies w8 (v.heap.size + 1) 28 #[.int .i64 0, .int .i64 0, .int .i64 0]) => ?_) ((hgrow8.block (v.heap.size + 1) ?_ ?_).trans (show Lies _ (v.heap.size + 1) 28 #[.int .i64 0, .int .i64 0, .int .i64 0] from ?_)); rotate_left; (focus first | omega | (simp; done) | (simp; omega)); (focus first | (simp [Value.ownBlock]; done) | (simp [Value.ownBlock]; omega)); (focus first | (refine Lies.drew (Lies.new ?_); simp; done) | (refine Lies.drew (Lies.alloc (Lies.new ?_) _); simp; done) | (refine Lies.new ?_; simp; done) | (refine Lies.alloc (Lies.new ?_) _; simp; done)))); have t81 : w.heap.size < w8.heap.size := (by omega); have p80 := (HPv.out.after B8).cell 0; have p81 := (HPv.out.after B8).cell 1; have p82 := (HPv.out.after B8).cell 2) | (refine step_app (o := ⟨some 90, _, _, _, _, _⟩) (by rfl) (.tmp 82) (.tmp 89) (by rfl) v.heap.size hi hz0 hz1 hz2 (.slice (some ⟨g1, 0, none⟩) (k + 1) cap1) (k + 1) ((unitsOf bs (k + 1)).map (.int .u8)) (by rfl) ?_ ⟨g, 0, none⟩ mm cap (((unitsOf bs (k + 1)).take mm).map (.int .u8)) (by rfl) hul3 ?_ hone2 hpos2 hle2 ?_ ?_; (focus first | exact hown8 | exact hown8.alloc _ | exact hown8.drew | exact (hown8.alloc _).drew); (focus (refine news_units ?_ HUv.out hgv mm; (repeat' (first | (with_reducible exact Below.refl _ _) | (with_reducible assumption) | (with_reducible refine Below.alloc ?_ ?_ _) | (with_reducible refine Below.setCell ?_ ?_ _) | (with_reducible refine below_row ?_ ?_ _) | (with_reducible refine Below.drew ?_) | (with_reducible refine below_drewN ?_ _) | (with_reducible refine Below.trans ?_ (Below.mono (by assumption) ?_)) | (first | exact Nat.le_refl _ | omega | (simp; done) | (simp; omega)))))); (focus first | omega | (simp; done) | (simp; omega)); intro g2 cap2 w9 hown9 hgrow9 hlt9; have B9 : Below v.heap.size v w9 := Below.grown (by (repeat' (first | (with_reducible exact Below.refl _ _) | (with_reducible assumption) | (with_reducible refine Below.alloc ?_ ?_ _) | (with_reducible refine Below.setCell ?_ ?_ _) | (with_reducible refine below_row ?_ ?_ _) | (with_reducible refine Below.drew ?_) | (with_reducible refine below_drewN ?_ _) | (with_reducible refine Below.trans ?_ (Below.mono (by assumption) ?_)) | (first | exact Nat.le_refl _ | omega | (simp; done) | (simp; omega))))) hgrow9 (by first | omega | (simp; omega)) (fun r e => (hown8.lt r e).1); have s9 := B9.size; (try (refine (fun (MZ0 : Lies w9 (v.heap.size) 28 #[.int .i64 0, .int .i64 0, .int .i64 0]) => ?_) (lies_grown (base := v.heap.size) (e := 5) (size := 1) (n := k + 1) (xs := (unitsOf bs (k + 1)).map (.int .u8)) ?_ ?_ (by decide) hgrow9); rotate_left; (focus first | exact hown8 | exact hown8.alloc _ | exact hown8.drew | exact (hown8.alloc _).drew); (focus first | exact LZ0 | exact LZ0.alloc _ | exact LZ0.drew | exact (LZ0.alloc _).drew))); (try (refine (fun (MZ1 : Lies w9 (v.heap.size + 1) 28 #[.int .i64 0, .int .i64 0, .int .i64 0]) => ?_) (lies_grown (base := v.heap.size) (e := 5) (size := 1) (n := k + 1) (xs := (unitsOf bs (k + 1)).map (.int .u8)) ?_ ?_ (by decide) hgrow9); rotate_left; (focus first | exact hown8 | exact hown8.alloc _ | exact hown8.drew | exact (hown8.alloc _).drew); (focus first | exact LZ1 | exact LZ1.alloc _ | exact LZ1.drew | exact (LZ1.alloc _).drew))); (try (refine (fun (MZ2 : Lies w9 (w8.heap.size) 28 #[.int .i64 0, .int .i64 0, .int .i64 0]) => ?_) (lies_grown (base := v.heap.size) (e := 5) (size := 1) (n := k + 1) (xs := (unitsOf bs (k + 1)).map (.int .u8)) ?_ ?_ (by decide) hgrow9); rotate_left; (focus first | exact hown8 | exact hown8.alloc _ | exact hown8.drew | exact (hown8.alloc _).drew); (focus first | (refine Lies.drew (Lies.new ?_); simp; done) | (refine Lies.drew (Lies.alloc (Lies.new ?_) _); simp; done) | (refine Lies.new ?_; simp; done) | (refine Lies.alloc (Lies.new ?_) _; simp; done)))); have t91 : w.heap.size < w9.heap.size := (by omega); have p90 := (HPv.out.after B9).cell 0; have p91 := (HPv.out.after B9).cell 1; have p92 := (HPv.out.after B9).cell 2) | (go_at_call 23; (with_reducible refine (K3.out _ _ _ ?_).mono ?_); (focus (refine own_units (base := v.heap.size) (cap := cap2) (n := k + 1 + mm) hul4 ?_; rw [List.map_append]; first | exact hown9 | exact hown9.alloc _ | exact hown9.drew | exact (hown9.alloc _).drew)); rintro _ w10 ⟨rfl, hb10⟩; have B10 : Below v.heap.size v w10 := Below.trans (by (repeat' (first | (with_reducible exact Below.refl _ _) | (with_reducible assumption) | (with_reducible refine Below.alloc ?_ ?_ _) | (with_reducible refine Below.setCell ?_ ?_ _) | (with_reducible refine below_row ?_ ?_ _) | (with_reducible refine Below.drew ?_) | (with_reducible refine below_drewN ?_ _) | (with_reducible refine Below.trans ?_ (Below.mono (by assumption) ?_)) | (first | exact Nat.le_refl _ | omega | (simp; done) | (simp; omega))))) (hb10.mono (by first | omega | (simp; omega))); have s10 := B10.size; (try (refine (fun (NZ0 : Lies w10 (v.heap.size) 28 #[.int .i64 0, .int .i64 0, .int .i64 0]) => ?_) (Lies.after ?_ hb10); rotate_left; (focus first | exact MZ0 | exact MZ0.alloc _ | exact MZ0.drew | exact (MZ0.alloc _).drew))); (try (refine (fun (NZ1 : Lies w10 (v.heap.size + 1) 28 #[.int .i64 0, .int .i64 0, .int .i64 0]) => ?_) (Lies.after ?_ hb10); rotate_left; (focus first | exact MZ1 | exact MZ1.alloc _ | exact MZ1.drew | exact (MZ1.alloc _).drew))); (try (refine (fun (NZ2 : Lies w10 (w8.heap.size) 28 #[.int .i64 0, .int .i64 0, .int .i64 0]) => ?_) (Lies.after ?_ hb10); rotate_left; (focus first | exact MZ2 | exact MZ2.alloc _ | exact MZ2.drew | exact (MZ2.alloc _).drew))); (try (refine (fun (NZ3 : Lies w10 (w9.heap.size) 28 #[.int .i64 0, .int .i64 0, .int .i64 0]) => ?_) (Lies.after ?_ hb10); rotate_left; (focus first | (refine Lies.drew (Lies.new ?_); simp; done) | (refine Lies.drew (Lies.alloc (Lies.new ?_) _); simp; done) | (refine Lies.new ?_; simp; done) | (refine Lies.alloc (Lies.new ?_) _; simp; done)))); have pa0 := (HPv.out.after B10).cell 0; have pa1 := (HPv.out.after B10).cell 1; have pa2 := (HPv.out.after B10).cell 2; (try obtain ⟨z0, z1, z2, y0, y1, y2⟩ := NZ0.c3); (try obtain ⟨z0, z1, z2, y0, y1, y2⟩ := NZ1.c3); (try obtain ⟨z0, z1, z2, y0, y1, y2⟩ := NZ2.c3); (try obtain ⟨z0, z1, z2, y0, y1, y2⟩ := NZ3.c3); have nq0 : ¬ v.heap.size = w.heap.size := (by omega); have nr0 : ¬ w.heap.size = v.heap.size := (by omega); have nq1 : ¬ v.heap.size + 1 = w.heap.size := (by omega); have nr1 : ¬ w.heap.size = v.heap.size + 1 := (by omega); have nq2 : ¬ w8.heap.size = w.heap.size := (by omega); have nr2 : ¬ w.heap.size = w8.heap.size := (by omega); have nq3 : ¬ w9.heap.size = w.heap.size := (by omega); have nr3 : ¬ w.heap.size = w9.heap.size := (by omega); have nq4 : ¬ w10.heap.size = w.heap.size := (by omega); have nr4 : ¬ w.heap.size = w10.heap.size := (by omega)))
            all_goals
              go_wp2_with fail
              go_meet
              exact ⟨rfl, by (repeat' (first | (with_reducible exact Below.refl _ _) | (with_reducible assumption) | (with_reducible refine Below.alloc ?_ ?_ _) | (with_reducible refine Below.setCell ?_ ?_ _) | (with_reducible refine below_row ?_ ?_ _) | (with_reducible refine Below.drew ?_) | (with_reducible refine below_drewN ?_ _) | (with_reducible refine Below.trans ?_ (Below.mono (by assumption) ?_)) | (first | exact Nat.le_refl _ | omega | (simp; done) | (simp; omega))))⟩
          case rest =>
            obtain ⟨rfl, hbx⟩ := hcut
            obtain ⟨wq, rfl⟩ : ∃ wq : World, wq = wc := ⟨_, rfl⟩
            have AV := HAV.out
            have BW : Below w.heap.size w wq := AV.trans (hbx.mono AV.size)
            go_wp2
            go_ret
            exact ⟨rfl, BW⟩
        · as_aux_lemma =>
          rw [← HSN.out] at hf
          have HV := Lib.hid (fun W => hv ▸ Convert_any 1 a b' c' W)
          have hrr : redrawS (unitsOf bs (k + 1)) n l u = ((x, y, z), 0) := by rw [redraw_fold HOK.out (by omega) (unitsOf_ok bs (k + 1)), hf]
          have HR : Hid (∀ W, Below w50.heap.size w50 W → Calls Tryd.prog 23 #[.agg #[.int .i64 n, .int .i64 l, .int .i64 u], .slice (some ⟨g, 0, none⟩) (k + 1) cap] W fun e w' => e = .returned (.tuple #[.agg #[.int .i64 x, .int .i64 y, .int .i64 z], .int .i64 0]) ∧ Below W.heap.size W w') := Lib.hid (fun W hW => by
            have h := Redraw_any (some ⟨g, 0, none⟩) g 0 (unitsOf bs (k + 1)) cap n l u W (fun _ => rfl) (own_units hul' (own_after HO4.out hW))
            rw [hrr, hul'] at h
            exact h)
          have hR : exactR a b' c' = (exactU a b' c', 0) := by unfold exactR; rw [HO.out]; rfl
          have HX := Lib.hid (fun W => hR ▸ Exact_any a b' c' W)
          have hin : allIn l u [y, z] = true := by
            simp only [allIn, List.all_cons, List.all_nil, Bool.and_true, Bool.and_eq_true, decide_eq_true_eq]; omega
          have HIN := Lib.hid (fun W => hin ▸ Inside_ok x y z n l u W (bad2_iff.2 ⟨ok2, HOK.out⟩))
          have HVV := Lib.hid (fun W => hcc ▸ Convert_any 1 x y z W)
          have hE : (exactU a b' c' = 1 ∧ x = a ∧ y = b' ∧ z = c') ∨ (exactU a b' c' = 3 ∧ x = a ∧ y = b' ∧ z = c') ∨ exactU a b' c' = 0 ∨ exactU a b' c' = 2 := by
            rcases exactU_cases a b' c' with ⟨e1, e2, e3⟩ | ⟨e1, e2, e3⟩ | ⟨e1, e2, e3⟩ | ⟨e1, e2, e3⟩
            · exact .inr (.inl ⟨e3, hsame e1⟩)
            · exact .inl ⟨e3, hsame e1⟩
            · exact .inr (.inr (.inr e3))
            · exact .inr (.inr (.inl e3))
          have HF2 := Lib.hid hf
          have HOK2 := Lib.hid ok2
          obtain ⟨o1, o2, o3, o4, o5⟩ := okD_iff.1 ok2
          have d1 : decide (sum + 100 ≤ y - l) = false := decide_eq_false (by omega)
          have d2 : decide (sum + 100 ≤ u - z) = false := decide_eq_false (by omega)
          generalize exactU a b' c' = E at *
          clear hv hf ok2 hex hcc hsame hrr hR hin HRD
          skip
          refine (HV.out _).mono ?_
          rintro _ w51 ⟨rfl, hb51⟩
          have s51 := hb51.size; try simp only [World.size_alloc, World.size_setCell, World.size_drew, setRow_size] at s51
          have B51 : Below w50.heap.size w50 w51 := by (repeat' (first | (with_reducible exact Below.refl _ _) | (with_reducible assumption) | (with_reducible refine Below.alloc ?_ ?_ _) | (with_reducible refine Below.setCell ?_ ?_ _) | (with_reducible refine below_row ?_ ?_ _) | (with_reducible refine Below.drew ?_) | (with_reducible refine below_drewN ?_ _) | (with_reducible refine Below.trans ?_ (Below.mono (by assumption) ?_)) | (first | exact Nat.le_refl _ | omega | (simp; done) | (simp; omega))))
          have HP_51 := Lib.hid (HP_50.out.after B51)
          have HN_51 := Lib.hid (HN_50.out.after B51)
          clear HP_50 HN_50
          have A51 : Below w.heap.size w w51 := A50.trans (B51.mono A50.size)
          have CC := B51
          clear A50 hb51 B51
          have qN0 := HN_51.out.cell 0
          have qN1 := HN_51.out.cell 1
          have qN2 := HN_51.out.cell 2
          have zN := HN_51.out.lt
          have qP0 := HP_51.out.cell 0
          have qP1 := HP_51.out.cell 1
          have qP2 := HP_51.out.cell 2
          have zP := HP_51.out.lt
          go_wp2_with fail
          refine (HR.out _ (Below.trans CC (Below.mono (B := w51.heap.size) (by (repeat' (first | (with_reducible exact Below.refl _ _) | (with_reducible assumption) | (with_reducible refine Below.alloc ?_ ?_ _) | (with_reducible refine Below.setCell ?_ ?_ _) | (with_reducible refine below_row ?_ ?_ _) | (with_reducible refine Below.drew ?_) | (with_reducible refine below_drewN ?_ _) | (with_reducible refine Below.trans ?_ (Below.mono (by assumption) ?_)) | (first | exact Nat.le_refl _ | omega | (simp; done) | (simp; omega))))) CC.size))).mono ?_
          rintro _ w52 ⟨rfl, hb52⟩
          have s52 := hb52.size; try simp only [World.size_alloc, World.size_setCell, World.size_drew, setRow_size] at s52
          clear qN0 qN1 qN2 zN qP0 qP1 qP2 zP
          have B52 : Below w51.heap.size w51 w52 := by (repeat' (first | (with_reducible exact Below.refl _ _) | (with_reducible assumption) | (with_reducible refine Below.alloc ?_ ?_ _) | (with_reducible refine Below.setCell ?_ ?_ _) | (with_reducible refine below_row ?_ ?_ _) | (with_reducible refine Below.drew ?_) | (with_reducible refine below_drewN ?_ _) | (with_reducible refine Below.trans ?_ (Below.mono (by assumption) ?_)) | (first | exact Nat.le_refl _ | omega | (simp; done) | (simp; omega))))
          have HP_52 := Lib.hid (HP_51.out.after B52)
          have HN_52 := Lib.hid (HN_51.out.after B52)
          have HX_52 := Lib.hid (show Lies w52 _ 28 #[.int .i64 x, .int .i64 y, .int .i64 z] from (by first | exact (Lies.made w51 28 #[.int .i64 x, .int .i64 y, .int .i64 z]).after hb52 | exact ((Lies.made w51 28 #[.int .i64 x, .int .i64 y, .int .i64 z]).alloc _).after hb52 | exact (((Lies.made w51 28 #[.int .i64 x, .int .i64 y, .int .i64 z]).alloc _).alloc _).after hb52))
          clear HP_51 HN_51
          have A52 : Below w.heap.size w w52 := A51.trans (B52.mono A51.size)
          have CC := CC.trans (B52.mono CC.size)
          clear A51 hb52 B52
          have qN0 := HN_52.out.cell 0
          have qN1 := HN_52.out.cell 1
          have qN2 := HN_52.out.cell 2
          have zN := HN_52.out.lt
          have qP0 := HP_52.out.cell 0
          have qP1 := HP_52.out.cell 1
          have qP2 := HP_52.out.cell 2
          have zP := HP_52.out.lt
          have qX0 := HX_52.out.cell 0
          have qX1 := HX_52.out.cell 1
          have qX2 := HX_52.out.cell 2
          have zX := HX_52.out.lt
          go_wp2_with fail
          refine (HX.out _).mono ?_
          rintro _ w53 ⟨rfl, hb53⟩
          have s53 := hb53.size; try simp only [World.size_alloc, World.size_setCell, World.size_drew, setRow_size] at s53
          clear qN0 qN1 qN2 zN qP0 qP1 qP2 zP qX0 qX1 qX2 zX
          have B53 : Below w52.heap.size w52 w53 := by (repeat' (first | (with_reducible exact Below.refl _ _) | (with_reducible assumption) | (with_reducible refine Below.alloc ?_ ?_ _) | (with_reducible refine Below.setCell ?_ ?_ _) | (with_reducible refine below_row ?_ ?_ _) | (with_reducible refine Below.drew ?_) | (with_reducible refine below_drewN ?_ _) | (with_reducible refine Below.trans ?_ (Below.mono (by assumption) ?_)) | (first | exact Nat.le_refl _ | omega | (simp; done) | (simp; omega))))
          have HP_53 := Lib.hid (HP_52.out.after B53)
          have HN_53 := Lib.hid (HN_52.out.after B53)
          have HX_53 := Lib.hid (HX_52.out.after B53)
          have HY_53 := Lib.hid (show Lies w53 _ 28 #[.int .i64 x, .int .i64 y, .int .i64 z] from (by first | exact (Lies.made w52 28 #[.int .i64 x, .int .i64 y, .int .i64 z]).after hb53 | exact ((Lies.made w52 28 #[.int .i64 x, .int .i64 y, .int .i64 z]).alloc _).after hb53 | exact (((Lies.made w52 28 #[.int .i64 x, .int .i64 y, .int .i64 z]).alloc _).alloc _).after hb53))
          clear HP_52 HN_52 HX_52
          have A53 : Below w.heap.size w w53 := A52.trans (B53.mono A52.size)
          have CC := CC.trans (B53.mono CC.size)
          clear A52 hb53 B53
          have qN0 := HN_53.out.cell 0
          have qN1 := HN_53.out.cell 1
          have qN2 := HN_53.out.cell 2
          have zN := HN_53.out.lt
          have qP0 := HP_53.out.cell 0
          have qP1 := HP_53.out.cell 1
          have qP2 := HP_53.out.cell 2
          have zP := HP_53.out.lt
          have qX0 := HX_53.out.cell 0
          have qX1 := HX_53.out.cell 1
          have qX2 := HX_53.out.cell 2
          have zX := HX_53.out.lt
          have qY0 := HY_53.out.cell 0
          have qY1 := HY_53.out.cell 1
          have qY2 := HY_53.out.cell 2
          have zY := HY_53.out.lt
          go_wp2_with fail
          refine (HIN.out _).mono ?_
          rintro _ w54 ⟨rfl, hb54⟩
          have s54 := hb54.size; try simp only [World.size_alloc, World.size_setCell, World.size_drew, setRow_size] at s54
          clear qN0 qN1 qN2 zN qP0 qP1 qP2 zP qX0 qX1 qX2 zX qY0 qY1 qY2 zY
          have B54 : Below w53.heap.size w53 w54 := by (repeat' (first | (with_reducible exact Below.refl _ _) | (with_reducible assumption) | (with_reducible refine Below.alloc ?_ ?_ _) | (with_reducible refine Below.setCell ?_ ?_ _) | (with_reducible refine below_row ?_ ?_ _) | (with_reducible refine Below.drew ?_) | (with_reducible refine below_drewN ?_ _) | (with_reducible refine Below.trans ?_ (Below.mono (by assumption) ?_)) | (first | exact Nat.le_refl _ | omega | (simp; done) | (simp; omega))))
          have HP_54 := Lib.hid (HP_53.out.after B54)
          have HN_54 := Lib.hid (HN_53.out.after B54)
          have HX_54 := Lib.hid (HX_53.out.after B54)
          have HY_54 := Lib.hid (HY_53.out.after B54)
          clear HP_53 HN_53 HX_53 HY_53
          have A54 : Below w.heap.size w w54 := A53.trans (B54.mono A53.size)
          have CC := CC.trans (B54.mono CC.size)
          clear A53 hb54 B54
          have qN0 := HN_54.out.cell 0
          have qN1 := HN_54.out.cell 1
          have qN2 := HN_54.out.cell 2
          have zN := HN_54.out.lt
          have qP0 := HP_54.out.cell 0
          have qP1 := HP_54.out.cell 1
          have qP2 := HP_54.out.cell 2
          have zP := HP_54.out.lt
          have qX0 := HX_54.out.cell 0
          have qX1 := HX_54.out.cell 1
          have qX2 := HX_54.out.cell 2
          have zX := HX_54.out.lt
          have qY0 := HY_54.out.cell 0
          have qY1 := HY_54.out.cell 1
          have qY2 := HY_54.out.cell 2
          have zY := HY_54.out.lt
          go_wp2_with fail
          refine (HVV.out _).mono ?_
          rintro _ w55 ⟨rfl, hb55⟩
          have s55 := hb55.size; try simp only [World.size_alloc, World.size_setCell, World.size_drew, setRow_size] at s55
          clear qN0 qN1 qN2 zN qP0 qP1 qP2 zP qX0 qX1 qX2 zX qY0 qY1 qY2 zY
          have B55 : Below w54.heap.size w54 w55 := by (repeat' (first | (with_reducible exact Below.refl _ _) | (with_reducible assumption) | (with_reducible refine Below.alloc ?_ ?_ _) | (with_reducible refine Below.setCell ?_ ?_ _) | (with_reducible refine below_row ?_ ?_ _) | (with_reducible refine Below.drew ?_) | (with_reducible refine below_drewN ?_ _) | (with_reducible refine Below.trans ?_ (Below.mono (by assumption) ?_)) | (first | exact Nat.le_refl _ | omega | (simp; done) | (simp; omega))))
          have HP_55 := Lib.hid (HP_54.out.after B55)
          have HN_55 := Lib.hid (HN_54.out.after B55)
          have HX_55 := Lib.hid (HX_54.out.after B55)
          have HY_55 := Lib.hid (HY_54.out.after B55)
          clear HP_54 HN_54 HX_54 HY_54
          have A55 : Below w.heap.size w w55 := A54.trans (B55.mono A54.size)
          have CC := CC.trans (B55.mono CC.size)
          clear A54 hb55 B55
          have qP0 := HP_55.out.cell 0
          have qP1 := HP_55.out.cell 1
          have qP2 := HP_55.out.cell 2
          have qN0 := HN_55.out.cell 0
          have qN1 := HN_55.out.cell 1
          have qN2 := HN_55.out.cell 2
          have qX0 := HX_55.out.cell 0
          have qX1 := HX_55.out.cell 1
          have qX2 := HX_55.out.cell 2
          have qY0 := HY_55.out.cell 0
          have qY1 := HY_55.out.cell 1
          have qY2 := HY_55.out.cell 2
          have zP := HP_55.out.lt
          have zN := HN_55.out.lt
          have zX := HX_55.out.lt
          have zY := HY_55.out.lt
          have fN0 := HN_55.out.free 0
          have fN1 := HN_55.out.free 1
          have fN2 := HN_55.out.free 2
          have hPN' : ¬ w.heap.size = w2.heap.size := by omega
          rcases hE with ⟨rfl, rfl, rfl, rfl⟩ | ⟨rfl, rfl, rfl, rfl⟩ | rfl | rfl
          all_goals
            go_wp2_with fail
            have r0 := own_store (own_after HO4.out CC) HN_55.out (by decide) 0 (.int .i64 x)
            have l0 := HN_55.out.store 0 (.int .i64 x)
            have r1 := own_store r0 l0 (by decide) 1 (.int .i64 y)
            have l1 := l0.store 1 (.int .i64 y)
            have r2 := own_store r1 l1 (by decide) 2 (.int .i64 z)
            have l2 := l1.store 2 (.int .i64 z)
            have hpp := ((HP_55.out.other (p := ⟨w2.heap.size, 0, none⟩) hPN' (.int .i64 x)).other (p := ⟨w2.heap.size, 1, none⟩) hPN' (.int .i64 y)).other (p := ⟨w2.heap.size, 2, none⟩) hPN' (.int .i64 z)
            exact ⟨⟨k + 1, sum + 100, x, y, z, by omega, by go_num, rfl, r2.alloc _, HF2, HOK2, Lib.hid (by omega), by omega, by omega, Lib.hid (hpp.alloc _), Lib.hid (l2.alloc _), by (repeat' (first | (with_reducible exact Below.refl _ _) | (with_reducible assumption) | (with_reducible refine Below.alloc ?_ ?_ _) | (with_reducible refine Below.setCell ?_ ?_ _) | (with_reducible refine below_row ?_ ?_ _) | (with_reducible refine Below.drew ?_) | (with_reducible refine below_drewN ?_ _) | (with_reducible refine Below.trans ?_ (Below.mono (by assumption) ?_)) | (first | exact Nat.le_refl _ | omega | (simp; done) | (simp; omega))))⟩, by simp [intOf]; omega⟩
      · have hst : stepOf bk = 254 := by unfold unitOf at hu; unfold stepOf; split at hu <;> simp_all
        rw [hu, hst] at HS HRD
        rw [hu] at HSN
        clear hu hst
        go_wp2_with fail
        refine (HS.out _).mono ?_
        rintro _ w3 ⟨rfl, hb3⟩
        have s3 := hb3.size; try simp only [World.size_alloc, World.size_setCell, World.size_drew, setRow_size] at s3
        have B3 : Below w.heap.size w w3 := BR.trans (hb3.mono sR)
        have HW3 := Lib.hid (own_after HOW.out hb3)
        have HP3 := Lib.hid (HP.out.after hb3)
        have HN3 := Lib.hid (HN.out.after hb3)
        have sP3 := HP3.out.lt
        have s3' := B3.size
        clear hb3 qb HOW HP HN BR HS
        go_wp2_with (at_builtin; refine wpList_append_own _ rfl _ _ 42 rfl (w.heap.size + 1) 5 i0 (.int .u8 0) 1 1 Tryd.underlying42 hi hz0 hz1 hz2 rfl (by decide) _ _ _ rfl (HW3.out.alloc _) ⟨w3.heap.size, 0, none⟩ 1 1 [.int .u8 2] rfl rfl (World.news_of_block (cs := #[.int .u8 2]) (t := 5) (fr := (0, 0)) (Lies.new (by simp))) (by simp [Value.oneCell']) (by unfold maxLen; omega) (by omega) (by simp; omega) ?_; intro v' w4 hown4 hgrow4 _; have HN4 := Lib.hid (lies_grown (HW3.out.alloc (.cells #[.int .u8 2] 5)) (HN3.out.alloc _) (by decide) hgrow4); have qn0 := HN4.out.cell 0; have qn1 := HN4.out.cell 1; have qn2 := HN4.out.cell 2; have zn := HN4.out.lt)
        clear qn0 qn1 qn2 zn
        have HP4 := Lib.hid ((HP3.out.alloc (.cells #[.int .u8 2] 5)).turned hgrow4 (base := w.heap.size + 1) (by omega) (fun r e => (HW3.out.lt r e).1))
        have B4 : Below w.heap.size w w4 := Below.grown (B3.alloc s3' _) hgrow4 (by simp; omega) (fun r e => Nat.le_trans (by omega) (HW3.out.lt r e).1)
        obtain ⟨g, cap, rfl, -, hg4⟩ := hown4.form (by omega)
        have HO4 := Lib.hid (show w4.ownsRow (w.heap.size + 1) 5 1 (.slice (some ⟨g, 0, none⟩) (k + 1) cap) (k + 1) ((unitsOf bs (k + 1)).map (.int .u8)) from by rw [HSN.out, List.map_append]; exact hown4)
        clear hown4 hgrow4 HW3 HP3 HN3 B3 s3 s3' sP3
        obtain ⟨w50, rfl⟩ : ∃ v : World, v = w4 := ⟨_, rfl⟩
        have HP_50 := Lib.hid HP4.out
        have HN_50 := Lib.hid HN4.out
        have A50 := B4
        have sP50 := A50.size
        clear HP4 HN4 B4
        have hul' := unitsOf_len (bs := bs) (k := k + 1) (by omega)
        rcases HRD.out with ⟨hv, hf⟩ | ⟨x, y, z, hv, hf, ok2, hex, hcc, hsame, g1, g2, g3, g4, g5⟩
        · as_aux_lemma =>
          have HV := Lib.hid (fun W => hv ▸ Convert_any 2 a b' c' W)
          rw [← HSN.out] at hf
          have hrr : redrawS (unitsOf bs (k + 1)) n l u = ((0, 0, 0), 6) := by rw [redraw_fold HOK.out (by omega) (unitsOf_ok bs (k + 1)), hf]
          have HR : Hid (∀ W, Below w50.heap.size w50 W → Calls Tryd.prog 23 #[.agg #[.int .i64 n, .int .i64 l, .int .i64 u], .slice (some ⟨g, 0, none⟩) (k + 1) cap] W fun e w' => e = .returned (.tuple #[.agg #[.int .i64 0, .int .i64 0, .int .i64 0], .int .i64 6]) ∧ Below W.heap.size W w') := Lib.hid (fun W hW => by
            have h := Redraw_any (some ⟨g, 0, none⟩) g 0 (unitsOf bs (k + 1)) cap n l u W (fun _ => rfl) (own_units hul' (own_after HO4.out hW))
            rw [hrr, hul'] at h
            exact h)
          obtain ⟨mm, hmm⟩ : ∃ mm : Nat, min (k : Int) (20 - ((k : Int) + 1)) = (mm : Int) := Int.eq_ofNat_of_zero_le (by rw [Int.min_def]; split <;> omega)
          have hmk : mm ≤ k ∧ k + 1 + mm ≤ 20 := by rw [Int.min_def] at hmm; split at hmm <;> omega
          obtain ⟨hmk1, hmk2⟩ := hmk
          have htk : (unitsOf bs (k + 1)).take (k + 1) = unitsOf bs (k + 1) := List.take_of_length_le (by omega)
          have hul2 : (((unitsOf bs (k + 1)).take (k + 1)).map (Value.int .u8)).length = k + 1 := by rw [htk]; simpa using hul'
          have hul3 : (((unitsOf bs (k + 1)).take mm).map (Value.int .u8)).length = mm := by simp; omega
          have hul4 : (unitsOf bs (k + 1) ++ (unitsOf bs (k + 1)).take mm).length = k + 1 + mm := by simp; omega
          have hone : ∀ x ∈ ((unitsOf bs (k + 1)).take (k + 1)).map (Value.int .u8), x.oneCell' = true := by intro x hx; obtain ⟨_, -, rfl⟩ := List.mem_map.1 hx; rfl
          have hone2 : ∀ x ∈ ((unitsOf bs (k + 1)).take mm).map (Value.int .u8), x.oneCell' = true := by intro x hx; obtain ⟨_, -, rfl⟩ := List.mem_map.1 hx; rfl
          have hpos : 0 < 0 + (k + 1) := by omega
          have hpos2 : 0 < k + 1 + mm := by omega
          have hle1 : 0 + (k + 1) ≤ 100 := by omega
          have hle2 : k + 1 + mm ≤ 100 := by omega
          have hall := never_more (us := unitsOf bs (k + 1)) (vs := (unitsOf bs (k + 1)).take mm) HOK.out (by omega) (fun x hx => by
            rcases List.mem_append.1 hx with hx | hx
            · exact unitsOf_ok bs (k + 1) x hx
            · exact unitsOf_ok bs (k + 1) x (List.mem_of_mem_take hx)) hf
          have K3 : Hid (∀ (g cap : Nat) W, cellsU W g 0 (unitsOf bs (k + 1) ++ (unitsOf bs (k + 1)).take mm) → Calls Tryd.prog 23 #[.agg #[.int .i64 n, .int .i64 l, .int .i64 u], .slice (some ⟨g, 0, none⟩) (k + 1 + mm) cap] W fun e w' => e = .returned (.tuple #[.agg #[.int .i64 0, .int .i64 0, .int .i64 0], .int .i64 6]) ∧ Below W.heap.size W w') := Lib.hid (fun g cap W hcW => by
            have h := Redraw_any (some ⟨g, 0, none⟩) g 0 (unitsOf bs (k + 1) ++ (unitsOf bs (k + 1)).take mm) cap n l u W (fun _ => rfl) hcW
            rw [hall, hul4] at h
            exact h)
          have hcap : k + 1 ≤ cap := by
            rcases HO4.out.2 with ⟨h1, -⟩ | ⟨_, _, _, h1, _, _, h2, _⟩
            · cases h1
            · simp only [Value.slice.injEq] at h1; omega
          have HMM := Lib.hid hmm
          clear hv hf hrr hmm hall HRD
          refine (HV.out _).mono ?_
          rintro _ w51 ⟨rfl, hb51⟩
          have s51 := hb51.size; try simp only [World.size_alloc, World.size_setCell, World.size_drew, setRow_size] at s51
          have B51 : Below w50.heap.size w50 w51 := by (repeat' (first | (with_reducible exact Below.refl _ _) | (with_reducible assumption) | (with_reducible refine Below.alloc ?_ ?_ _) | (with_reducible refine Below.setCell ?_ ?_ _) | (with_reducible refine below_row ?_ ?_ _) | (with_reducible refine Below.drew ?_) | (with_reducible refine below_drewN ?_ _) | (with_reducible refine Below.trans ?_ (Below.mono (by assumption) ?_)) | (first | exact Nat.le_refl _ | omega | (simp; done) | (simp; omega))))
          have HP51 := Lib.hid (HP_50.out.after B51)
          have q0 := HP51.out.cell 0
          have q1 := HP51.out.cell 1
          have q2 := HP51.out.cell 2
          have z51 := HP51.out.lt
          go_wp2_with fail
          refine (HR.out _ (Below.trans B51 (Below.mono (B := w51.heap.size) (by (repeat' (first | (with_reducible exact Below.refl _ _) | (with_reducible assumption) | (with_reducible refine Below.alloc ?_ ?_ _) | (with_reducible refine Below.setCell ?_ ?_ _) | (with_reducible refine below_row ?_ ?_ _) | (with_reducible refine Below.drew ?_) | (with_reducible refine below_drewN ?_ _) | (with_reducible refine Below.trans ?_ (Below.mono (by assumption) ?_)) | (first | exact Nat.le_refl _ | omega | (simp; done) | (simp; omega))))) B51.size))).mono ?_
          rintro _ w52 ⟨rfl, hb52⟩
          have s52 := hb52.size; try simp only [World.size_alloc, World.size_setCell, World.size_drew, setRow_size] at s52
          have B52 : Below w50.heap.size w50 w52 := Below.trans B51 (Below.mono (B := w51.heap.size) (by (repeat' (first | (with_reducible exact Below.refl _ _) | (with_reducible assumption) | (with_reducible refine Below.alloc ?_ ?_ _) | (with_reducible refine Below.setCell ?_ ?_ _) | (with_reducible refine below_row ?_ ?_ _) | (with_reducible refine Below.drew ?_) | (with_reducible refine below_drewN ?_ _) | (with_reducible refine Below.trans ?_ (Below.mono (by assumption) ?_)) | (first | exact Nat.le_refl _ | omega | (simp; done) | (simp; omega))))) B51.size)
          clear q0 q1 q2 z51 HP51 hb51 hb52 HV HR
          go_upto_region 17 with fail
          obtain ⟨v, hv, hBv, -, -, -⟩ := mid_alloc w50 w52 B52 #[.int .i64 0, .int .i64 0, .int .i64 0] 28
          rw [hv]
          have HPv := Lib.hid (HP_50.out.after hBv)
          have HUv := Lib.hid (own_units hul' (own_after HO4.out hBv))
          have sP : w.heap.size < v.heap.size := HPv.out.lt
          have s50 := hBv.size
          have hgv : g < v.heap.size := by omega
          have hmm := HMM.out
          have hwr1 : IntKind.i64.wrap (20 - ((k : Int) + 1)) = 20 - ((k : Int) + 1) := IntWalk.i64_in _ (by omega)
          have hwr2 : IntKind.i64.wrap (20 - ((k + 1 : Nat) : Int)) = 20 - ((k + 1 : Nat) : Int) := IntWalk.i64_in _ (by omega)
          have hmm2 : min (k : Int) (20 - ((k + 1 : Nat) : Int)) = (mm : Int) := by rw [Int.natCast_add]; exact hmm
          have hm0 : (0 : Int) ≤ (mm : Int) := by omega
          have hmc : (mm : Int) ≤ (cap : Int) := by omega
          have sP1 : w.heap.size < v.heap.size + 1 := by omega
          have nv0 : ¬ w.heap.size = v.heap.size := by omega
          have nw0 : ¬ v.heap.size = w.heap.size := by omega
          have nv1 : ¬ w.heap.size = v.heap.size + 1 := by omega
          have nw1 : ¬ v.heap.size + 1 = w.heap.size := by omega
          have p0 := HPv.out.cell 0
          have p1 := HPv.out.cell 1
          have p2 := HPv.out.cell 2
          have AV : Below w.heap.size w v := A50.trans (hBv.mono A50.size)
          have HAV := Lib.hid AV
          clear hv hBv HP_50 HO4 HN_50 AV A50 B51 B52 HMM
          go_cut [18] from 78 to 93 (fun s18 wx => s18 = .int .i64 6 ∧ Below v.heap.size v wx)
          case first =>
            go_region_held3 (fun W => W.cell? ⟨w.heap.size, 0, none⟩ = some (.int .i64 n) ∧ W.cell? ⟨w.heap.size, 1, none⟩ = some (.int .i64 l) ∧ W.cell? ⟨w.heap.size, 2, none⟩ = some (.int .i64 u)) (first | (refine lies3 (Lies.after HPv.out ?_); ((repeat' (first | (with_reducible exact Below.refl _ _) | (with_reducible assumption) | (with_reducible refine Below.alloc ?_ ?_ _) | (with_reducible refine Below.setCell ?_ ?_ _) | (with_reducible refine below_row ?_ ?_ _) | (with_reducible refine Below.drew ?_) | (with_reducible refine below_drewN ?_ _) | (with_reducible refine Below.trans ?_ (Below.mono (by assumption) ?_)) | (first | exact Nat.le_refl _ | omega | (simp; done) | (simp; omega))))); done) | go_keep) (first | (refine step_app (o := ⟨some 82, _, _, _, _, _⟩) (by rfl) (.tmp 80) (.tmp 81) (by rfl) v.heap.size hi hz0 hz1 hz2 (.slice (some ⟨_, 0, none⟩) 0 0) 0 [] (by rfl) ?_ ⟨g, 0, none⟩ (k + 1) cap (((unitsOf bs (k + 1)).take (k + 1)).map (.int .u8)) (by rfl) hul2 ?_ hone hpos hle1 ?_ ?_; (focus ((try with_reducible refine World.ownsRow.drew ?_); first | (refine own_emptyU _ _ _ ?_ ?_; (focus (simp; done)); (focus first | omega | (simp; done) | (simp; omega))) | (refine World.ownsRow.alloc (own_emptyU _ _ _ ?_ ?_) _; (focus (simp; done)); (focus first | omega | (simp; done) | (simp; omega))))); (focus (refine news_units ?_ HUv.out hgv (k + 1); (repeat' (first | (with_reducible exact Below.refl _ _) | (with_reducible assumption) | (with_reducible refine Below.alloc ?_ ?_ _) | (with_reducible refine Below.setCell ?_ ?_ _) | (with_reducible refine below_row ?_ ?_ _) | (with_reducible refine Below.drew ?_) | (with_reducible refine below_drewN ?_ _) | (with_reducible refine Below.trans ?_ (Below.mono (by assumption) ?_)) | (first | exact Nat.le_refl _ | omega | (simp; done) | (simp; omega)))))); (focus first | omega | (simp; done) | (simp; omega)); intro g1 cap1 w8 hown8 hgrow8 hlt8; simp only [Nat.zero_add, List.nil_append, htk] at hown8; rw [Nat.zero_add]; have B8 : Below v.heap.size v w8 := Below.grown (by (repeat' (first | (with_reducible exact Below.refl _ _) | (with_reducible assumption) | (with_reducible refine Below.alloc ?_ ?_ _) | (with_reducible refine Below.setCell ?_ ?_ _) | (with_reducible refine below_row ?_ ?_ _) | (with_reducible refine Below.drew ?_) | (with_reducible refine below_drewN ?_ _) | (with_reducible refine Below.trans ?_ (Below.mono (by assumption) ?_)) | (first | exact Nat.le_refl _ | omega | (simp; done) | (simp; omega))))) hgrow8 (by first | (simp; done) | (simp; omega)) (fun r e => by simp [Value.ownBlock] at e; omega); have s8 := B8.size; (try (refine (fun (LZ0 : Lies w8 (v.heap.size) 28 #[.int .i64 0, .int .i64 0, .int .i64 0]) => ?_) ((hgrow8.block (v.heap.size) ?_ ?_).trans (show Lies _ (v.heap.size) 28 #[.int .i64 0, .int .i64 0, .int .i64 0] from ?_)); rotate_left; (focus first | omega | (simp; done) | (simp; omega)); (focus first | (simp [Value.ownBlock]; done) | (simp [Value.ownBlock]; omega)); (focus first | (refine Lies.drew (Lies.new ?_); simp; done) | (refine Lies.drew (Lies.alloc (Lies.new ?_) _); simp; done) | (refine Lies.new ?_; simp; done) | (refine Lies.alloc (Lies.new ?_) _; simp; done)))); (try (refine (fun (LZ1 : Lies w8 (v.heap.size + 1) 28 #[.int .i64 0, .int .i64 0, .int .i64 0]) => ?_) ((hgrow8.block (v.heap.size + 1) ?_ ?_).trans (show Lies _ (v.heap.size + 1) 28 #[.int .i64 0, .int .i64 0, .int .i64 0] from ?_)); rotate_left; (focus first | omega | (simp; done) | (simp; omega)); (focus first | (simp [Value.ownBlock]; done) | (simp [Value.ownBlock]; omega)); (focus first | (refine Lies.drew (Lies.new ?_); simp; done) | (refine Lies.drew (Lies.alloc (Lies.new ?_) _); simp; done) | (refine Lies.new ?_; simp; done) | (refine Lies.alloc (Lies.new ?_) _; simp; done)))); have t81 : w.heap.size < w8.heap.size := (by omega); have p80 := (HPv.out.after B8).cell 0; have p81 := (HPv.out.after B8).cell 1; have p82 := (HPv.out.after B8).cell 2) | (refine step_app (o := ⟨some 90, _, _, _, _, _⟩) (by rfl) (.tmp 82) (.tmp 89) (by rfl) v.heap.size hi hz0 hz1 hz2 (.slice (some ⟨g1, 0, none⟩) (k + 1) cap1) (k + 1) ((unitsOf bs (k + 1)).map (.int .u8)) (by rfl) ?_ ⟨g, 0, none⟩ mm cap (((unitsOf bs (k + 1)).take mm).map (.int .u8)) (by rfl) hul3 ?_ hone2 hpos2 hle2 ?_ ?_; (focus first | exact hown8 | exact hown8.alloc _ | exact hown8.drew | exact (hown8.alloc _).drew); (focus (refine news_units ?_ HUv.out hgv mm; (repeat' (first | (with_reducible exact Below.refl _ _) | (with_reducible assumption) | (with_reducible refine Below.alloc ?_ ?_ _) | (with_reducible refine Below.setCell ?_ ?_ _) | (with_reducible refine below_row ?_ ?_ _) | (with_reducible refine Below.drew ?_) | (with_reducible refine below_drewN ?_ _) | (with_reducible refine Below.trans ?_ (Below.mono (by assumption) ?_)) | (first | exact Nat.le_refl _ | omega | (simp; done) | (simp; omega)))))); (focus first | omega | (simp; done) | (simp; omega)); intro g2 cap2 w9 hown9 hgrow9 hlt9; have B9 : Below v.heap.size v w9 := Below.grown (by (repeat' (first | (with_reducible exact Below.refl _ _) | (with_reducible assumption) | (with_reducible refine Below.alloc ?_ ?_ _) | (with_reducible refine Below.setCell ?_ ?_ _) | (with_reducible refine below_row ?_ ?_ _) | (with_reducible refine Below.drew ?_) | (with_reducible refine below_drewN ?_ _) | (with_reducible refine Below.trans ?_ (Below.mono (by assumption) ?_)) | (first | exact Nat.le_refl _ | omega | (simp; done) | (simp; omega))))) hgrow9 (by first | omega | (simp; omega)) (fun r e => (hown8.lt r e).1); have s9 := B9.size; (try (refine (fun (MZ0 : Lies w9 (v.heap.size) 28 #[.int .i64 0, .int .i64 0, .int .i64 0]) => ?_) (lies_grown (base := v.heap.size) (e := 5) (size := 1) (n := k + 1) (xs := (unitsOf bs (k + 1)).map (.int .u8)) ?_ ?_ (by decide) hgrow9); rotate_left; (focus first | exact hown8 | exact hown8.alloc _ | exact hown8.drew | exact (hown8.alloc _).drew); (focus first | exact LZ0 | exact LZ0.alloc _ | exact LZ0.drew | exact (LZ0.alloc _).drew))); (try (refine (fun (MZ1 : Lies w9 (v.heap.size + 1) 28 #[.int .i64 0, .int .i64 0, .int .i64 0]) => ?_) (lies_grown (base := v.heap.size) (e := 5) (size := 1) (n := k + 1) (xs := (unitsOf bs (k + 1)).map (.int .u8)) ?_ ?_ (by decide) hgrow9); rotate_left; (focus first | exact hown8 | exact hown8.alloc _ | exact hown8.drew | exact (hown8.alloc _).drew); (focus first | exact LZ1 | exact LZ1.alloc _ | exact LZ1.drew | exact (LZ1.alloc _).drew))); (try (refine (fun (MZ2 : Lies w9 (w8.heap.size) 28 #[.int .i64 0, .int .i64 0, .int .i64 0]) => ?_) (lies_grown (base := v.heap.size) (e := 5) (size := 1) (n := k + 1) (xs := (unitsOf bs (k + 1)).map (.int .u8)) ?_ ?_ (by decide) hgrow9); rotate_left; (focus first | exact hown8 | exact hown8.alloc _ | exact hown8.drew | exact (hown8.alloc _).drew); (focus first | (refine Lies.drew (Lies.new ?_); simp; done) | (refine Lies.drew (Lies.alloc (Lies.new ?_) _); simp; done) | (refine Lies.new ?_; simp; done) | (refine Lies.alloc (Lies.new ?_) _; simp; done)))); have t91 : w.heap.size < w9.heap.size := (by omega); have p90 := (HPv.out.after B9).cell 0; have p91 := (HPv.out.after B9).cell 1; have p92 := (HPv.out.after B9).cell 2) | (go_at_call 23; (with_reducible refine (K3.out _ _ _ ?_).mono ?_); (focus (refine own_units (base := v.heap.size) (cap := cap2) (n := k + 1 + mm) hul4 ?_; rw [List.map_append]; first | exact hown9 | exact hown9.alloc _ | exact hown9.drew | exact (hown9.alloc _).drew)); rintro _ w10 ⟨rfl, hb10⟩; have B10 : Below v.heap.size v w10 := Below.trans (by (repeat' (first | (with_reducible exact Below.refl _ _) | (with_reducible assumption) | (with_reducible refine Below.alloc ?_ ?_ _) | (with_reducible refine Below.setCell ?_ ?_ _) | (with_reducible refine below_row ?_ ?_ _) | (with_reducible refine Below.drew ?_) | (with_reducible refine below_drewN ?_ _) | (with_reducible refine Below.trans ?_ (Below.mono (by assumption) ?_)) | (first | exact Nat.le_refl _ | omega | (simp; done) | (simp; omega))))) (hb10.mono (by first | omega | (simp; omega))); have s10 := B10.size; (try (refine (fun (NZ0 : Lies w10 (v.heap.size) 28 #[.int .i64 0, .int .i64 0, .int .i64 0]) => ?_) (Lies.after ?_ hb10); rotate_left; (focus first | exact MZ0 | exact MZ0.alloc _ | exact MZ0.drew | exact (MZ0.alloc _).drew))); (try (refine (fun (NZ1 : Lies w10 (v.heap.size + 1) 28 #[.int .i64 0, .int .i64 0, .int .i64 0]) => ?_) (Lies.after ?_ hb10); rotate_left; (focus first | exact MZ1 | exact MZ1.alloc _ | exact MZ1.drew | exact (MZ1.alloc _).drew))); (try (refine (fun (NZ2 : Lies w10 (w8.heap.size) 28 #[.int .i64 0, .int .i64 0, .int .i64 0]) => ?_) (Lies.after ?_ hb10); rotate_left; (focus first | exact MZ2 | exact MZ2.alloc _ | exact MZ2.drew | exact (MZ2.alloc _).drew))); (try (refine (fun (NZ3 : Lies w10 (w9.heap.size) 28 #[.int .i64 0, .int .i64 0, .int .i64 0]) => ?_) (Lies.after ?_ hb10); rotate_left; (focus first | (refine Lies.drew (Lies.new ?_); simp; done) | (refine Lies.drew (Lies.alloc (Lies.new ?_) _); simp; done) | (refine Lies.new ?_; simp; done) | (refine Lies.alloc (Lies.new ?_) _; simp; done)))); have pa0 := (HPv.out.after B10).cell 0; have pa1 := (HPv.out.after B10).cell 1; have pa2 := (HPv.out.after B10).cell 2; (try obtain ⟨z0, z1, z2, y0, y1, y2⟩ := NZ0.c3); (try obtain ⟨z0, z1, z2, y0, y1, y2⟩ := NZ1.c3); (try obtain ⟨z0, z1, z2, y0, y1, y2⟩ := NZ2.c3); (try obtain ⟨z0, z1, z2, y0, y1, y2⟩ := NZ3.c3); have nq0 : ¬ v.heap.size = w.heap.size := (by omega); have nr0 : ¬ w.heap.size = v.heap.size := (by omega); have nq1 : ¬ v.heap.size + 1 = w.heap.size := (by omega); have nr1 : ¬ w.heap.size = v.heap.size + 1 := (by omega); have nq2 : ¬ w8.heap.size = w.heap.size := (by omega); have nr2 : ¬ w.heap.size = w8.heap.size := (by omega); have nq3 : ¬ w9.heap.size = w.heap.size := (by omega); have nr3 : ¬ w.heap.size = w9.heap.size := (by omega); have nq4 : ¬ w10.heap.size = w.heap.size := (by omega); have nr4 : ¬ w.heap.size = w10.heap.size := (by omega)))
            all_goals
              go_wp2_with fail
              go_meet
              exact ⟨rfl, by (repeat' (first | (with_reducible exact Below.refl _ _) | (with_reducible assumption) | (with_reducible refine Below.alloc ?_ ?_ _) | (with_reducible refine Below.setCell ?_ ?_ _) | (with_reducible refine below_row ?_ ?_ _) | (with_reducible refine Below.drew ?_) | (with_reducible refine below_drewN ?_ _) | (with_reducible refine Below.trans ?_ (Below.mono (by assumption) ?_)) | (first | exact Nat.le_refl _ | omega | (simp; done) | (simp; omega))))⟩
          case rest =>
            obtain ⟨rfl, hbx⟩ := hcut
            obtain ⟨wq, rfl⟩ : ∃ wq : World, wq = wc := ⟨_, rfl⟩
            have AV := HAV.out
            have BW : Below w.heap.size w wq := AV.trans (hbx.mono AV.size)
            go_wp2
            go_ret
            exact ⟨rfl, BW⟩
        · as_aux_lemma =>
          rw [← HSN.out] at hf
          have HV := Lib.hid (fun W => hv ▸ Convert_any 2 a b' c' W)
          have hrr : redrawS (unitsOf bs (k + 1)) n l u = ((x, y, z), 0) := by rw [redraw_fold HOK.out (by omega) (unitsOf_ok bs (k + 1)), hf]
          have HR : Hid (∀ W, Below w50.heap.size w50 W → Calls Tryd.prog 23 #[.agg #[.int .i64 n, .int .i64 l, .int .i64 u], .slice (some ⟨g, 0, none⟩) (k + 1) cap] W fun e w' => e = .returned (.tuple #[.agg #[.int .i64 x, .int .i64 y, .int .i64 z], .int .i64 0]) ∧ Below W.heap.size W w') := Lib.hid (fun W hW => by
            have h := Redraw_any (some ⟨g, 0, none⟩) g 0 (unitsOf bs (k + 1)) cap n l u W (fun _ => rfl) (own_units hul' (own_after HO4.out hW))
            rw [hrr, hul'] at h
            exact h)
          have hR : exactR a b' c' = (exactU a b' c', 0) := by unfold exactR; rw [HO.out]; rfl
          have HX := Lib.hid (fun W => hR ▸ Exact_any a b' c' W)
          have hin : allIn l u [y, z] = true := by
            simp only [allIn, List.all_cons, List.all_nil, Bool.and_true, Bool.and_eq_true, decide_eq_true_eq]; omega
          have HIN := Lib.hid (fun W => hin ▸ Inside_ok x y z n l u W (bad2_iff.2 ⟨ok2, HOK.out⟩))
          have HVV := Lib.hid (fun W => hcc ▸ Convert_any 2 x y z W)
          have hE : (exactU a b' c' = 2 ∧ x = a ∧ y = b' ∧ z = c') ∨ (exactU a b' c' = 3 ∧ x = a ∧ y = b' ∧ z = c') ∨ exactU a b' c' = 0 ∨ exactU a b' c' = 1 := by
            rcases exactU_cases a b' c' with ⟨e1, e2, e3⟩ | ⟨e1, e2, e3⟩ | ⟨e1, e2, e3⟩ | ⟨e1, e2, e3⟩
            · exact .inr (.inl ⟨e3, hsame e2⟩)
            · exact .inr (.inr (.inr e3))
            · exact .inl ⟨e3, hsame e2⟩
            · exact .inr (.inr (.inl e3))
          have HF2 := Lib.hid hf
          have HOK2 := Lib.hid ok2
          obtain ⟨o1, o2, o3, o4, o5⟩ := okD_iff.1 ok2
          have d1 : decide (sum + 254 ≤ y - l) = false := decide_eq_false (by omega)
          have d2 : decide (sum + 254 ≤ u - z) = false := decide_eq_false (by omega)
          generalize exactU a b' c' = E at *
          clear hv hf ok2 hex hcc hsame hrr hR hin HRD
          skip
          refine (HV.out _).mono ?_
          rintro _ w51 ⟨rfl, hb51⟩
          have s51 := hb51.size; try simp only [World.size_alloc, World.size_setCell, World.size_drew, setRow_size] at s51
          have B51 : Below w50.heap.size w50 w51 := by (repeat' (first | (with_reducible exact Below.refl _ _) | (with_reducible assumption) | (with_reducible refine Below.alloc ?_ ?_ _) | (with_reducible refine Below.setCell ?_ ?_ _) | (with_reducible refine below_row ?_ ?_ _) | (with_reducible refine Below.drew ?_) | (with_reducible refine below_drewN ?_ _) | (with_reducible refine Below.trans ?_ (Below.mono (by assumption) ?_)) | (first | exact Nat.le_refl _ | omega | (simp; done) | (simp; omega))))
          have HP_51 := Lib.hid (HP_50.out.after B51)
          have HN_51 := Lib.hid (HN_50.out.after B51)
          clear HP_50 HN_50
          have A51 : Below w.heap.size w w51 := A50.trans (B51.mono A50.size)
          have CC := B51
          clear A50 hb51 B51
          have qN0 := HN_51.out.cell 0
          have qN1 := HN_51.out.cell 1
          have qN2 := HN_51.out.cell 2
          have zN := HN_51.out.lt
          have qP0 := HP_51.out.cell 0
          have qP1 := HP_51.out.cell 1
          have qP2 := HP_51.out.cell 2
          have zP := HP_51.out.lt
          go_wp2_with fail
          refine (HR.out _ (Below.trans CC (Below.mono (B := w51.heap.size) (by (repeat' (first | (with_reducible exact Below.refl _ _) | (with_reducible assumption) | (with_reducible refine Below.alloc ?_ ?_ _) | (with_reducible refine Below.setCell ?_ ?_ _) | (with_reducible refine below_row ?_ ?_ _) | (with_reducible refine Below.drew ?_) | (with_reducible refine below_drewN ?_ _) | (with_reducible refine Below.trans ?_ (Below.mono (by assumption) ?_)) | (first | exact Nat.le_refl _ | omega | (simp; done) | (simp; omega))))) CC.size))).mono ?_
          rintro _ w52 ⟨rfl, hb52⟩
          have s52 := hb52.size; try simp only [World.size_alloc, World.size_setCell, World.size_drew, setRow_size] at s52
          clear qN0 qN1 qN2 zN qP0 qP1 qP2 zP
          have B52 : Below w51.heap.size w51 w52 := by (repeat' (first | (with_reducible exact Below.refl _ _) | (with_reducible assumption) | (with_reducible refine Below.alloc ?_ ?_ _) | (with_reducible refine Below.setCell ?_ ?_ _) | (with_reducible refine below_row ?_ ?_ _) | (with_reducible refine Below.drew ?_) | (with_reducible refine below_drewN ?_ _) | (with_reducible refine Below.trans ?_ (Below.mono (by assumption) ?_)) | (first | exact Nat.le_refl _ | omega | (simp; done) | (simp; omega))))
          have HP_52 := Lib.hid (HP_51.out.after B52)
          have HN_52 := Lib.hid (HN_51.out.after B52)
          have HX_52 := Lib.hid (show Lies w52 _ 28 #[.int .i64 x, .int .i64 y, .int .i64 z] from (by first | exact (Lies.made w51 28 #[.int .i64 x, .int .i64 y, .int .i64 z]).after hb52 | exact ((Lies.made w51 28 #[.int .i64 x, .int .i64 y, .int .i64 z]).alloc _).after hb52 | exact (((Lies.made w51 28 #[.int .i64 x, .int .i64 y, .int .i64 z]).alloc _).alloc _).after hb52))
          clear HP_51 HN_51
          have A52 : Below w.heap.size w w52 := A51.trans (B52.mono A51.size)
          have CC := CC.trans (B52.mono CC.size)
          clear A51 hb52 B52
          have qN0 := HN_52.out.cell 0
          have qN1 := HN_52.out.cell 1
          have qN2 := HN_52.out.cell 2
          have zN := HN_52.out.lt
          have qP0 := HP_52.out.cell 0
          have qP1 := HP_52.out.cell 1
          have qP2 := HP_52.out.cell 2
          have zP := HP_52.out.lt
          have qX0 := HX_52.out.cell 0
          have qX1 := HX_52.out.cell 1
          have qX2 := HX_52.out.cell 2
          have zX := HX_52.out.lt
          go_wp2_with fail
          refine (HX.out _).mono ?_
          rintro _ w53 ⟨rfl, hb53⟩
          have s53 := hb53.size; try simp only [World.size_alloc, World.size_setCell, World.size_drew, setRow_size] at s53
          clear qN0 qN1 qN2 zN qP0 qP1 qP2 zP qX0 qX1 qX2 zX
          have B53 : Below w52.heap.size w52 w53 := by (repeat' (first | (with_reducible exact Below.refl _ _) | (with_reducible assumption) | (with_reducible refine Below.alloc ?_ ?_ _) | (with_reducible refine Below.setCell ?_ ?_ _) | (with_reducible refine below_row ?_ ?_ _) | (with_reducible refine Below.drew ?_) | (with_reducible refine below_drewN ?_ _) | (with_reducible refine Below.trans ?_ (Below.mono (by assumption) ?_)) | (first | exact Nat.le_refl _ | omega | (simp; done) | (simp; omega))))
          have HP_53 := Lib.hid (HP_52.out.after B53)
          have HN_53 := Lib.hid (HN_52.out.after B53)
          have HX_53 := Lib.hid (HX_52.out.after B53)
          have HY_53 := Lib.hid (show Lies w53 _ 28 #[.int .i64 x, .int .i64 y, .int .i64 z] from (by first | exact (Lies.made w52 28 #[.int .i64 x, .int .i64 y, .int .i64 z]).after hb53 | exact ((Lies.made w52 28 #[.int .i64 x, .int .i64 y, .int .i64 z]).alloc _).after hb53 | exact (((Lies.made w52 28 #[.int .i64 x, .int .i64 y, .int .i64 z]).alloc _).alloc _).after hb53))
          clear HP_52 HN_52 HX_52
          have A53 : Below w.heap.size w w53 := A52.trans (B53.mono A52.size)
          have CC := CC.trans (B53.mono CC.size)
          clear A52 hb53 B53
          have qN0 := HN_53.out.cell 0
          have qN1 := HN_53.out.cell 1
          have qN2 := HN_53.out.cell 2
          have zN := HN_53.out.lt
          have qP0 := HP_53.out.cell 0
          have qP1 := HP_53.out.cell 1
          have qP2 := HP_53.out.cell 2
          have zP := HP_53.out.lt
          have qX0 := HX_53.out.cell 0
          have qX1 := HX_53.out.cell 1
          have qX2 := HX_53.out.cell 2
          have zX := HX_53.out.lt
          have qY0 := HY_53.out.cell 0
          have qY1 := HY_53.out.cell 1
          have qY2 := HY_53.out.cell 2
          have zY := HY_53.out.lt
          go_wp2_with fail
          refine (HIN.out _).mono ?_
          rintro _ w54 ⟨rfl, hb54⟩
          have s54 := hb54.size; try simp only [World.size_alloc, World.size_setCell, World.size_drew, setRow_size] at s54
          clear qN0 qN1 qN2 zN qP0 qP1 qP2 zP qX0 qX1 qX2 zX qY0 qY1 qY2 zY
          have B54 : Below w53.heap.size w53 w54 := by (repeat' (first | (with_reducible exact Below.refl _ _) | (with_reducible assumption) | (with_reducible refine Below.alloc ?_ ?_ _) | (with_reducible refine Below.setCell ?_ ?_ _) | (with_reducible refine below_row ?_ ?_ _) | (with_reducible refine Below.drew ?_) | (with_reducible refine below_drewN ?_ _) | (with_reducible refine Below.trans ?_ (Below.mono (by assumption) ?_)) | (first | exact Nat.le_refl _ | omega | (simp; done) | (simp; omega))))
          have HP_54 := Lib.hid (HP_53.out.after B54)
          have HN_54 := Lib.hid (HN_53.out.after B54)
          have HX_54 := Lib.hid (HX_53.out.after B54)
          have HY_54 := Lib.hid (HY_53.out.after B54)
          clear HP_53 HN_53 HX_53 HY_53
          have A54 : Below w.heap.size w w54 := A53.trans (B54.mono A53.size)
          have CC := CC.trans (B54.mono CC.size)
          clear A53 hb54 B54
          have qN0 := HN_54.out.cell 0
          have qN1 := HN_54.out.cell 1
          have qN2 := HN_54.out.cell 2
          have zN := HN_54.out.lt
          have qP0 := HP_54.out.cell 0
          have qP1 := HP_54.out.cell 1
          have qP2 := HP_54.out.cell 2
          have zP := HP_54.out.lt
          have qX0 := HX_54.out.cell 0
          have qX1 := HX_54.out.cell 1
          have qX2 := HX_54.out.cell 2
          have zX := HX_54.out.lt
          have qY0 := HY_54.out.cell 0
          have qY1 := HY_54.out.cell 1
          have qY2 := HY_54.out.cell 2
          have zY := HY_54.out.lt
          go_wp2_with fail
          refine (HVV.out _).mono ?_
          rintro _ w55 ⟨rfl, hb55⟩
          have s55 := hb55.size; try simp only [World.size_alloc, World.size_setCell, World.size_drew, setRow_size] at s55
          clear qN0 qN1 qN2 zN qP0 qP1 qP2 zP qX0 qX1 qX2 zX qY0 qY1 qY2 zY
          have B55 : Below w54.heap.size w54 w55 := by (repeat' (first | (with_reducible exact Below.refl _ _) | (with_reducible assumption) | (with_reducible refine Below.alloc ?_ ?_ _) | (with_reducible refine Below.setCell ?_ ?_ _) | (with_reducible refine below_row ?_ ?_ _) | (with_reducible refine Below.drew ?_) | (with_reducible refine below_drewN ?_ _) | (with_reducible refine Below.trans ?_ (Below.mono (by assumption) ?_)) | (first | exact Nat.le_refl _ | omega | (simp; done) | (simp; omega))))
          have HP_55 := Lib.hid (HP_54.out.after B55)
          have HN_55 := Lib.hid (HN_54.out.after B55)
          have HX_55 := Lib.hid (HX_54.out.after B55)
          have HY_55 := Lib.hid (HY_54.out.after B55)
          clear HP_54 HN_54 HX_54 HY_54
          have A55 : Below w.heap.size w w55 := A54.trans (B55.mono A54.size)
          have CC := CC.trans (B55.mono CC.size)
          clear A54 hb55 B55
          have qP0 := HP_55.out.cell 0
          have qP1 := HP_55.out.cell 1
          have qP2 := HP_55.out.cell 2
          have qN0 := HN_55.out.cell 0
          have qN1 := HN_55.out.cell 1
          have qN2 := HN_55.out.cell 2
          have qX0 := HX_55.out.cell 0
          have qX1 := HX_55.out.cell 1
          have qX2 := HX_55.out.cell 2
          have qY0 := HY_55.out.cell 0
          have qY1 := HY_55.out.cell 1
          have qY2 := HY_55.out.cell 2
          have zP := HP_55.out.lt
          have zN := HN_55.out.lt
          have zX := HX_55.out.lt
          have zY := HY_55.out.lt
          have fN0 := HN_55.out.free 0
          have fN1 := HN_55.out.free 1
          have fN2 := HN_55.out.free 2
          have hPN' : ¬ w.heap.size = w2.heap.size := by omega
          rcases hE with ⟨rfl, rfl, rfl, rfl⟩ | ⟨rfl, rfl, rfl, rfl⟩ | rfl | rfl
          all_goals
            go_wp2_with fail
            have r0 := own_store (own_after HO4.out CC) HN_55.out (by decide) 0 (.int .i64 x)
            have l0 := HN_55.out.store 0 (.int .i64 x)
            have r1 := own_store r0 l0 (by decide) 1 (.int .i64 y)
            have l1 := l0.store 1 (.int .i64 y)
            have r2 := own_store r1 l1 (by decide) 2 (.int .i64 z)
            have l2 := l1.store 2 (.int .i64 z)
            have hpp := ((HP_55.out.other (p := ⟨w2.heap.size, 0, none⟩) hPN' (.int .i64 x)).other (p := ⟨w2.heap.size, 1, none⟩) hPN' (.int .i64 y)).other (p := ⟨w2.heap.size, 2, none⟩) hPN' (.int .i64 z)
            exact ⟨⟨k + 1, sum + 254, x, y, z, by omega, by go_num, rfl, r2.alloc _, HF2, HOK2, Lib.hid (by omega), by omega, by omega, Lib.hid (hpp.alloc _), Lib.hid (l2.alloc _), by (repeat' (first | (with_reducible exact Below.refl _ _) | (with_reducible assumption) | (with_reducible refine Below.alloc ?_ ?_ _) | (with_reducible refine Below.setCell ?_ ?_ _) | (with_reducible refine below_row ?_ ?_ _) | (with_reducible refine Below.drew ?_) | (with_reducible refine below_drewN ?_ _) | (with_reducible refine Below.trans ?_ (Below.mono (by assumption) ?_)) | (first | exact Nat.le_refl _ | omega | (simp; done) | (simp; omega))))⟩, by simp [intOf]; omega⟩
    · have hke : k = bs.length := by omega
      subst hke
      obtain ⟨A', c'', g, hvt, hown'⟩ := own_form HOW.out
      subst hvt
      have hul := unitsOf_len (bs := bs) (k := bs.length) (Nat.le_refl _)
      have hrr : redrawS (unitsOf bs bs.length) n l u = ((a, b', c'), 0) := by rw [redraw_fold HOK.out (by omega) (unitsOf_ok bs bs.length), HF.out]
      have HR : Hid (Calls Tryd.prog 23 #[.agg #[.int .i64 n, .int .i64 l, .int .i64 u], .slice A' bs.length c''] wr fun e w' => e = .returned (.tuple #[.agg #[.int .i64 a, .int .i64 b', .int .i64 c'], .int .i64 0]) ∧ Below wr.heap.size wr w') := Lib.hid (by
        have h := Redraw_any A' g 0 (unitsOf bs bs.length) c'' n l u wr (fun h0 => (hown' (by omega)).1) (fun i hi => by
          obtain ⟨-, cur, hL, hcur⟩ := hown' (by omega)
          have e := hL.cell i
          rw [hcur _ (by omega)] at e
          rw [Nat.zero_add]
          refine e.trans ?_
          simp [hi])
        rw [hrr, hul] at h
        exact h)
      obtain ⟨w60, rfl⟩ : ∃ v : World, v = wr := ⟨_, rfl⟩
      have q0 := HP.out.cell 0
      have q1 := HP.out.cell 1
      have q2 := HP.out.cell 2
      have z0 := HP.out.lt
      clear hown' HOW hrr hul
      go_wp2_with fail
      refine HR.out.mono ?_
      rintro _ w61 ⟨rfl, hb61⟩
      have s61 := hb61.size; try simp only [World.size_alloc, World.size_setCell, World.size_drew, setRow_size] at s61
      have LN := HN.out.after hb61
      have m0 := LN.cell 0
      have m1 := LN.cell 1
      have m2 := LN.cell 2
      have zN := LN.lt
      go_wp2
      go_ret
      exact ⟨rfl, by (repeat' (first | (with_reducible exact Below.refl _ _) | (with_reducible assumption) | (with_reducible refine Below.alloc ?_ ?_ _) | (with_reducible refine Below.setCell ?_ ?_ _) | (with_reducible refine below_row ?_ ?_ _) | (with_reducible refine Below.drew ?_) | (with_reducible refine below_drewN ?_ _) | (with_reducible refine Below.trans ?_ (Below.mono (by assumption) ?_)) | (first | exact Nat.le_refl _ | omega | (simp; done) | (simp; omega))))⟩
end Go.Proofs.YtldjkdomklgmaaaDoor
